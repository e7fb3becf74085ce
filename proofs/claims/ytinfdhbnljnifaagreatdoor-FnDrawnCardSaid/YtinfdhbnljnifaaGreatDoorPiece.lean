import Derived.Test.YtinfdhbnljnifaaGreatDoorRd
namespace Go.Proofs.YtinfdhbnljnifaaGreatDoor
open Go.RowKit
theorem pce {e : Ending} {zs : List Int} (h : e = .returned (.string (zo zs))) (hb : zs.all (fun z => decide (0 ≤ z) && decide (z ≤ 255)) = true) (h0 : 0 < zs.length) (h4 : zs.length ≤ 4) : ∃ zs, e = .returned (.string (zo zs)) ∧ zv zs ∧ 0 < zs.length ∧ zs.length ≤ 4 :=
 ⟨zs, h, fun z hz => by have := List.all_eq_true.1 hb z hz; simpa using this, h0, h4⟩
theorem zm9 (k : Nat) (w : World) (hm : k % 28 = 0) :
  Calls Tryz.prog 88 #[.int .i64 (k : Int)] w fun e w' => (∃ zs, e = .returned (.string (zo zs)) ∧ zv zs ∧ 0 < zs.length ∧ zs.length ≤ 4) ∧ Ext w w' := by
 have hI : (k : Int) % 28 = 0 := by omega
 go_enter Tryz.func88, Tryz.ntmps88
 go_wp2
 go_ret
 exact ⟨pce (zs := [97]) rfl rfl (by decide) (by decide), (Ext.refl _).alloc _⟩
theorem znh (k : Nat) (w : World) (hm : k % 28 = 1) :
  Calls Tryz.prog 88 #[.int .i64 (k : Int)] w fun e w' => (∃ zs, e = .returned (.string (zo zs)) ∧ zv zs ∧ 0 < zs.length ∧ zs.length ≤ 4) ∧ Ext w w' := by
 have hI : (k : Int) % 28 = 1 := by omega
 go_enter Tryz.func88, Tryz.ntmps88
 go_wp2
 go_ret
 exact ⟨pce (zs := [98]) rfl rfl (by decide) (by decide), (Ext.refl _).alloc _⟩
theorem zmv (k : Nat) (w : World) (hm : k % 28 = 2) :
  Calls Tryz.prog 88 #[.int .i64 (k : Int)] w fun e w' => (∃ zs, e = .returned (.string (zo zs)) ∧ zv zs ∧ 0 < zs.length ∧ zs.length ≤ 4) ∧ Ext w w' := by
 have hI : (k : Int) % 28 = 2 := by omega
 go_enter Tryz.func88, Tryz.ntmps88
 go_wp2
 go_ret
 exact ⟨pce (zs := [32]) rfl rfl (by decide) (by decide), (Ext.refl _).alloc _⟩
theorem znr (k : Nat) (w : World) (hm : k % 28 = 3) :
  Calls Tryz.prog 88 #[.int .i64 (k : Int)] w fun e w' => (∃ zs, e = .returned (.string (zo zs)) ∧ zv zs ∧ 0 < zs.length ∧ zs.length ≤ 4) ∧ Ext w w' := by
 have hI : (k : Int) % 28 = 3 := by omega
 go_enter Tryz.func88, Tryz.ntmps88
 go_wp2
 go_ret
 exact ⟨pce (zs := [99]) rfl rfl (by decide) (by decide), (Ext.refl _).alloc _⟩
theorem zmV (k : Nat) (w : World) (hm : k % 28 = 4) :
  Calls Tryz.prog 88 #[.int .i64 (k : Int)] w fun e w' => (∃ zs, e = .returned (.string (zo zs)) ∧ zv zs ∧ 0 < zs.length ∧ zs.length ≤ 4) ∧ Ext w w' := by
 have hI : (k : Int) % 28 = 4 := by omega
 go_enter Tryz.func88, Tryz.ntmps88
 go_wp2
 go_ret
 exact ⟨pce (zs := [228, 184, 150]) rfl rfl (by decide) (by decide), (Ext.refl _).alloc _⟩
theorem zny (k : Nat) (w : World) (hm : k % 28 = 5) :
  Calls Tryz.prog 88 #[.int .i64 (k : Int)] w fun e w' => (∃ zs, e = .returned (.string (zo zs)) ∧ zv zs ∧ 0 < zs.length ∧ zs.length ≤ 4) ∧ Ext w w' := by
 have hI : (k : Int) % 28 = 5 := by omega
 go_enter Tryz.func88, Tryz.ntmps88
 go_wp2
 go_ret
 exact ⟨pce (zs := [204, 129]) rfl rfl (by decide) (by decide), (Ext.refl _).alloc _⟩
theorem zmC (k : Nat) (w : World) (hm : k % 28 = 6) :
  Calls Tryz.prog 88 #[.int .i64 (k : Int)] w fun e w' => (∃ zs, e = .returned (.string (zo zs)) ∧ zv zs ∧ 0 < zs.length ∧ zs.length ≤ 4) ∧ Ext w w' := by
 have hI : (k : Int) % 28 = 6 := by omega
 go_enter Tryz.func88, Tryz.ntmps88
 go_wp2
 go_ret
 exact ⟨pce (zs := [195, 169]) rfl rfl (by decide) (by decide), (Ext.refl _).alloc _⟩
theorem zm5 (k : Nat) (w : World) (hm : k % 28 = 7) :
  Calls Tryz.prog 88 #[.int .i64 (k : Int)] w fun e w' => (∃ zs, e = .returned (.string (zo zs)) ∧ zv zs ∧ 0 < zs.length ∧ zs.length ≤ 4) ∧ Ext w w' := by
 have hI : (k : Int) % 28 = 7 := by omega
 go_enter Tryz.func88, Tryz.ntmps88
 go_wp2
 go_ret
 exact ⟨pce (zs := [120]) rfl rfl (by decide) (by decide), (Ext.refl _).alloc _⟩
theorem zmX (k : Nat) (w : World) (hm : k % 28 = 8) :
  Calls Tryz.prog 88 #[.int .i64 (k : Int)] w fun e w' => (∃ zs, e = .returned (.string (zo zs)) ∧ zv zs ∧ 0 < zs.length ∧ zs.length ≤ 4) ∧ Ext w w' := by
 have hI : (k : Int) % 28 = 8 := by omega
 go_enter Tryz.func88, Tryz.ntmps88
 go_wp2
 go_ret
 exact ⟨pce (zs := [240, 159, 152, 128]) rfl rfl (by decide) (by decide), (Ext.refl _).alloc _⟩
theorem zmM (k : Nat) (w : World) (hm : k % 28 = 9) :
  Calls Tryz.prog 88 #[.int .i64 (k : Int)] w fun e w' => (∃ zs, e = .returned (.string (zo zs)) ∧ zv zs ∧ 0 < zs.length ∧ zs.length ≤ 4) ∧ Ext w w' := by
 have hI : (k : Int) % 28 = 9 := by omega
 go_enter Tryz.func88, Tryz.ntmps88
 go_wp2
 go_ret
 exact ⟨pce (zs := [45]) rfl rfl (by decide) (by decide), (Ext.refl _).alloc _⟩
theorem zlp (k : Nat) (w : World) (hm : k % 28 = 10) :
  Calls Tryz.prog 88 #[.int .i64 (k : Int)] w fun e w' => (∃ zs, e = .returned (.string (zo zs)) ∧ zv zs ∧ 0 < zs.length ∧ zs.length ≤ 4) ∧ Ext w w' := by
 have hI : (k : Int) % 28 = 10 := by omega
 go_enter Tryz.func88, Tryz.ntmps88
 go_wp2
 go_ret
 exact ⟨pce (zs := [255]) rfl rfl (by decide) (by decide), (Ext.refl _).alloc _⟩
theorem zle (k : Nat) (w : World) (hm : k % 28 = 11) :
  Calls Tryz.prog 88 #[.int .i64 (k : Int)] w fun e w' => (∃ zs, e = .returned (.string (zo zs)) ∧ zv zs ∧ 0 < zs.length ∧ zs.length ≤ 4) ∧ Ext w w' := by
 have hI : (k : Int) % 28 = 11 := by omega
 go_enter Tryz.func88, Tryz.ntmps88
 go_wp2
 go_ret
 exact ⟨pce (zs := [9]) rfl rfl (by decide) (by decide), (Ext.refl _).alloc _⟩
theorem zkR (k : Nat) (w : World) (hm : k % 28 = 12) :
  Calls Tryz.prog 88 #[.int .i64 (k : Int)] w fun e w' => (∃ zs, e = .returned (.string (zo zs)) ∧ zv zs ∧ 0 < zs.length ∧ zs.length ≤ 4) ∧ Ext w w' := by
 have hI : (k : Int) % 28 = 12 := by omega
 go_enter Tryz.func88, Tryz.ntmps88
 go_wp2
 go_ret
 exact ⟨pce (zs := [226, 128, 141]) rfl rfl (by decide) (by decide), (Ext.refl _).alloc _⟩
theorem zln (k : Nat) (w : World) (hm : k % 28 = 13) :
  Calls Tryz.prog 88 #[.int .i64 (k : Int)] w fun e w' => (∃ zs, e = .returned (.string (zo zs)) ∧ zv zs ∧ 0 < zs.length ∧ zs.length ≤ 4) ∧ Ext w w' := by
 have hI : (k : Int) % 28 = 13 := by omega
 go_enter Tryz.func88, Tryz.ntmps88
 go_wp2
 go_ret
 exact ⟨pce (zs := [228, 184]) rfl rfl (by decide) (by decide), (Ext.refl _).alloc _⟩
theorem zlK (k : Nat) (w : World) (hm : k % 28 = 14) :
  Calls Tryz.prog 88 #[.int .i64 (k : Int)] w fun e w' => (∃ zs, e = .returned (.string (zo zs)) ∧ zv zs ∧ 0 < zs.length ∧ zs.length ≤ 4) ∧ Ext w w' := by
 have hI : (k : Int) % 28 = 14 := by omega
 go_enter Tryz.func88, Tryz.ntmps88
 go_wp2
 go_ret
 exact ⟨pce (zs := [111]) rfl rfl (by decide) (by decide), (Ext.refl _).alloc _⟩
theorem zlk (k : Nat) (w : World) (hm : k % 28 = 15) :
  Calls Tryz.prog 88 #[.int .i64 (k : Int)] w fun e w' => (∃ zs, e = .returned (.string (zo zs)) ∧ zv zs ∧ 0 < zs.length ∧ zs.length ≤ 4) ∧ Ext w w' := by
 have hI : (k : Int) % 28 = 15 := by omega
 go_enter Tryz.func88, Tryz.ntmps88
 go_wp2
 go_ret
 exact ⟨pce (zs := [7]) rfl rfl (by decide) (by decide), (Ext.refl _).alloc _⟩
theorem zlB (k : Nat) (w : World) (hm : k % 28 = 16) :
  Calls Tryz.prog 88 #[.int .i64 (k : Int)] w fun e w' => (∃ zs, e = .returned (.string (zo zs)) ∧ zv zs ∧ 0 < zs.length ∧ zs.length ≤ 4) ∧ Ext w w' := by
 have hI : (k : Int) % 28 = 16 := by omega
 go_enter Tryz.func88, Tryz.ntmps88
 go_wp2
 go_ret
 exact ⟨pce (zs := [239, 184, 143]) rfl rfl (by decide) (by decide), (Ext.refl _).alloc _⟩
theorem zlH (k : Nat) (w : World) (hm : k % 28 = 17) :
  Calls Tryz.prog 88 #[.int .i64 (k : Int)] w fun e w' => (∃ zs, e = .returned (.string (zo zs)) ∧ zv zs ∧ 0 < zs.length ∧ zs.length ≤ 4) ∧ Ext w w' := by
 have hI : (k : Int) % 28 = 17 := by omega
 go_enter Tryz.func88, Tryz.ntmps88
 go_wp2
 go_ret
 exact ⟨pce (zs := [32]) rfl rfl (by decide) (by decide), (Ext.refl _).alloc _⟩
theorem zlz (k : Nat) (w : World) (hm : k % 28 = 18) :
  Calls Tryz.prog 88 #[.int .i64 (k : Int)] w fun e w' => (∃ zs, e = .returned (.string (zo zs)) ∧ zv zs ∧ 0 < zs.length ∧ zs.length ≤ 4) ∧ Ext w w' := by
 have hI : (k : Int) % 28 = 18 := by omega
 go_enter Tryz.func88, Tryz.ntmps88
 go_wp2
 go_ret
 exact ⟨pce (zs := [227, 130, 162]) rfl rfl (by decide) (by decide), (Ext.refl _).alloc _⟩
theorem zlD (k : Nat) (w : World) (hm : k % 28 = 19) :
  Calls Tryz.prog 88 #[.int .i64 (k : Int)] w fun e w' => (∃ zs, e = .returned (.string (zo zs)) ∧ zv zs ∧ 0 < zs.length ∧ zs.length ≤ 4) ∧ Ext w w' := by
 have hI : (k : Int) % 28 = 19 := by omega
 go_enter Tryz.func88, Tryz.ntmps88
 go_wp2
 go_ret
 exact ⟨pce (zs := [122]) rfl rfl (by decide) (by decide), (Ext.refl _).alloc _⟩
theorem zlA (k : Nat) (w : World) (hm : k % 28 = 20) :
  Calls Tryz.prog 88 #[.int .i64 (k : Int)] w fun e w' => (∃ zs, e = .returned (.string (zo zs)) ∧ zv zs ∧ 0 < zs.length ∧ zs.length ≤ 4) ∧ Ext w w' := by
 have hI : (k : Int) % 28 = 20 := by omega
 go_enter Tryz.func88, Tryz.ntmps88
 go_wp2
 go_ret
 exact ⟨pce (zs := [237, 160, 128]) rfl rfl (by decide) (by decide), (Ext.refl _).alloc _⟩
theorem zll (k : Nat) (w : World) (hm : k % 28 = 21) :
  Calls Tryz.prog 88 #[.int .i64 (k : Int)] w fun e w' => (∃ zs, e = .returned (.string (zo zs)) ∧ zv zs ∧ 0 < zs.length ∧ zs.length ≤ 4) ∧ Ext w w' := by
 have hI : (k : Int) % 28 = 21 := by omega
 go_enter Tryz.func88, Tryz.ntmps88
 go_wp2
 go_ret
 exact ⟨pce (zs := [192, 128]) rfl rfl (by decide) (by decide), (Ext.refl _).alloc _⟩
theorem zlw (k : Nat) (w : World) (hm : k % 28 = 22) :
  Calls Tryz.prog 88 #[.int .i64 (k : Int)] w fun e w' => (∃ zs, e = .returned (.string (zo zs)) ∧ zv zs ∧ 0 < zs.length ∧ zs.length ≤ 4) ∧ Ext w w' := by
 have hI : (k : Int) % 28 = 22 := by omega
 go_enter Tryz.func88, Tryz.ntmps88
 go_wp2
 go_ret
 exact ⟨pce (zs := [240, 159, 152]) rfl rfl (by decide) (by decide), (Ext.refl _).alloc _⟩
theorem zlg (k : Nat) (w : World) (hm : k % 28 = 23) :
  Calls Tryz.prog 88 #[.int .i64 (k : Int)] w fun e w' => (∃ zs, e = .returned (.string (zo zs)) ∧ zv zs ∧ 0 < zs.length ∧ zs.length ≤ 4) ∧ Ext w w' := by
 have hI : (k : Int) % 28 = 23 := by omega
 go_enter Tryz.func88, Tryz.ntmps88
 go_wp2
 go_ret
 exact ⟨pce (zs := [194, 133]) rfl rfl (by decide) (by decide), (Ext.refl _).alloc _⟩
theorem zls (k : Nat) (w : World) (hm : k % 28 = 24) :
  Calls Tryz.prog 88 #[.int .i64 (k : Int)] w fun e w' => (∃ zs, e = .returned (.string (zo zs)) ∧ zv zs ∧ 0 < zs.length ∧ zs.length ≤ 4) ∧ Ext w w' := by
 have hI : (k : Int) % 28 = 24 := by omega
 go_enter Tryz.func88, Tryz.ntmps88
 go_wp2
 go_ret
 exact ⟨pce (zs := [97, 98, 32]) rfl rfl (by decide) (by decide), (Ext.refl _).alloc _⟩
theorem zlE (k : Nat) (w : World) (hm : k % 28 = 25) :
  Calls Tryz.prog 88 #[.int .i64 (k : Int)] w fun e w' => (∃ zs, e = .returned (.string (zo zs)) ∧ zv zs ∧ 0 < zs.length ∧ zs.length ≤ 4) ∧ Ext w w' := by
 have hI : (k : Int) % 28 = 25 := by omega
 go_enter Tryz.func88, Tryz.ntmps88
 go_wp2
 go_ret
 exact ⟨pce (zs := [227, 128, 128]) rfl rfl (by decide) (by decide), (Ext.refl _).alloc _⟩
theorem zlr (k : Nat) (w : World) (hm : k % 28 = 26) :
  Calls Tryz.prog 88 #[.int .i64 (k : Int)] w fun e w' => (∃ zs, e = .returned (.string (zo zs)) ∧ zv zs ∧ 0 < zs.length ∧ zs.length ≤ 4) ∧ Ext w w' := by
 have hI : (k : Int) % 28 = 26 := by omega
 go_enter Tryz.func88, Tryz.ntmps88
 go_wp2
 go_ret
 exact ⟨pce (zs := [244, 144, 128, 128]) rfl rfl (by decide) (by decide), (Ext.refl _).alloc _⟩
theorem zk4 (k : Nat) (w : World) (hm : k % 28 = 27) :
  Calls Tryz.prog 88 #[.int .i64 (k : Int)] w fun e w' => (∃ zs, e = .returned (.string (zo zs)) ∧ zv zs ∧ 0 < zs.length ∧ zs.length ≤ 4) ∧ Ext w w' := by
 have hI : (k : Int) % 28 = 27 := by omega
 go_enter Tryz.func88, Tryz.ntmps88
 go_wp2
 go_ret
 exact ⟨pce (zs := [113]) rfl rfl (by decide) (by decide), (Ext.refl _).alloc _⟩
theorem zkw (k : Nat) (w : World) :
  Calls Tryz.prog 88 #[.int .i64 (k : Int)] w fun e w' => (∃ zs, e = .returned (.string (zo zs)) ∧ zv zs ∧ 0 < zs.length ∧ zs.length ≤ 4) ∧ Ext w w' := by
 have h : k % 28 = 0 ∨ k % 28 = 1 ∨ k % 28 = 2 ∨ k % 28 = 3 ∨ k % 28 = 4 ∨ k % 28 = 5 ∨ k % 28 = 6 ∨ k % 28 = 7 ∨ k % 28 = 8 ∨ k % 28 = 9 ∨ k % 28 = 10 ∨ k % 28 = 11 ∨ k % 28 = 12 ∨ k % 28 = 13 ∨ k % 28 = 14 ∨ k % 28 = 15 ∨ k % 28 = 16 ∨ k % 28 = 17 ∨ k % 28 = 18 ∨ k % 28 = 19 ∨ k % 28 = 20 ∨ k % 28 = 21 ∨ k % 28 = 22 ∨ k % 28 = 23 ∨ k % 28 = 24 ∨ k % 28 = 25 ∨ k % 28 = 26 ∨ k % 28 = 27 := by omega
 rcases h with h | h | h | h | h | h | h | h | h | h | h | h | h | h | h | h | h | h | h | h | h | h | h | h | h | h | h | h
 ·exact zm9 k w h
 ·exact znh k w h
 ·exact zmv k w h
 ·exact znr k w h
 ·exact zmV k w h
 ·exact zny k w h
 ·exact zmC k w h
 ·exact zm5 k w h
 ·exact zmX k w h
 ·exact zmM k w h
 ·exact zlp k w h
 ·exact zle k w h
 ·exact zkR k w h
 ·exact zln k w h
 ·exact zlK k w h
 ·exact zlk k w h
 ·exact zlB k w h
 ·exact zlH k w h
 ·exact zlz k w h
 ·exact zlD k w h
 ·exact zlA k w h
 ·exact zll k w h
 ·exact zlw k w h
 ·exact zlg k w h
 ·exact zls k w h
 ·exact zlE k w h
 ·exact zlr k w h
 ·exact zk4 k w h
end Go.Proofs.YtinfdhbnljnifaaGreatDoor
