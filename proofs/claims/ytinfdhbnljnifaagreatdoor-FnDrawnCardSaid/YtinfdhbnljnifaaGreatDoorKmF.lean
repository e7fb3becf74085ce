import Derived.Test.YtinfdhbnljnifaaGreatDoorKmU
import Derived.Test.YtinfdhbnljnifaaGreatDoorEdW2
import Derived.WalkSmall
namespace Go.Proofs.YtinfdhbnljnifaaGreatDoor
open Go.RowKit
structure zlF (bs : List Int) (b off n x K i : Nat) (lo hi : Int) (w : World) : Prop where
 len : n = bs.length
 pos : 0 < n
 first : at0 bs 0 = (x : Int)
 x255 : x ≤ 255
 cell : ∀ j, j < n → w.cell? ⟨b, off + j, none⟩ = some (.int .u8 (at0 bs j))
 tab : w.cell? ⟨1, x, none⟩ = some (.int .u8 K)
 clo : w.cell? ⟨2, 2 * i, none⟩ = some (.int .u8 lo)
 chi : w.cell? ⟨2, 2 * i + 1, none⟩ = some (.int .u8 hi)
 lo : loB x = lo
 hi : hiB x = hi
set_option maxRecDepth 10000 in
set_option maxHeartbeats 1000000 in
theorem zjj (b off cap n x : Nat) (w : World) (h0 : 0 < n) (h255 : x ≤ 255) (g0 : w.cell? ⟨b, off, none⟩ = some (.int .u8 x)) (t0 : w.cell? ⟨1, x, none⟩ = some (.int .u8 ((240 : Nat) : Int))) :
  Calls Tryz.prog 166 #[.slice (some ⟨b, off, none⟩) n cap] w fun e w' => e = .returned (.bool true) ∧ Ext w w' := by
 have z0 : ¬ ((n : Int) = 0) := by omega
 have z1 : (0 : Int) < (n : Int) := by omega
 have z2 : (0 : Int) ≤ (n : Int) := by omega
 have x256 : (x : Int) < 256 := by omega
 go_enter Tryz.func166, Tryz.ntmps166
 go_wp2
 go_ret
 exact ⟨rfl, Ext.refl w⟩
set_option maxRecDepth 10000 in
set_option maxHeartbeats 1000000 in
theorem ziO (b off cap n x : Nat) (w : World) (h0 : 0 < n) (h255 : x ≤ 255) (g0 : w.cell? ⟨b, off, none⟩ = some (.int .u8 x)) (t0 : w.cell? ⟨1, x, none⟩ = some (.int .u8 ((241 : Nat) : Int))) :
  Calls Tryz.prog 166 #[.slice (some ⟨b, off, none⟩) n cap] w fun e w' => e = .returned (.bool true) ∧ Ext w w' := by
 have z0 : ¬ ((n : Int) = 0) := by omega
 have z1 : (0 : Int) < (n : Int) := by omega
 have z2 : (1 : Int) ≤ (n : Int) := by omega
 have x256 : (x : Int) < 256 := by omega
 go_enter Tryz.func166, Tryz.ntmps166
 go_wp2
 go_ret
 exact ⟨rfl, Ext.refl w⟩
set_option maxRecDepth 10000 in
set_option maxHeartbeats 4000000 in
theorem zkR (bs : List Int) (b off cap n x : Nat) (lo hi : Int) (w : World) (h : zlF bs b off n x 2 0 lo hi w) (hN : nB x = 2) :
  Calls Tryz.prog 166 #[.slice (some ⟨b, off, none⟩) n cap] w fun e w' => e = .returned (.bool (zaP bs)) ∧ Ext w w' := by
 have g0 := h.cell 0 h.pos
 rw [h.first, Nat.add_zero] at g0
 have z0 : ¬ ((n : Int) = 0) := by have := h.pos; omega
 have z1 : (0 : Int) < (n : Int) := by have := h.pos; omega
 have x256 : (x : Int) < 256 := by have := h.x255; omega
 have t0 := h.tab
 have c0 := h.clo
 have c1 := h.chi
 have HH := zh h
 have hfull : zaP bs = (decide (2 ≤ n) || (decide (1 < n) && (decide (at0 bs 1 < lo) || decide (hi < at0 bs 1))) || (decide (2 < n) && (decide (at0 bs 2 < 128) || decide (191 < at0 bs 2)))) := by unfold zaP; rw [← h.len, h.first, hN, h.lo, h.hi]
 rw [hfull]
 clear h hfull hN
 by_cases hA : 2 ≤ n
 ·have hA2 : (2 : Int) ≤ (n : Int) := by omega
  go_enter Tryz.func166, Tryz.ntmps166
  go_wp2
  try (go_quiet (fail); go_wp2)
  try (go_quiet (fail); go_wp2)
  refine bodyPost_ret (v := .bool true) (by simp [results, Tryz.results166, go_sem]) rfl ⟨by simp [hA], ?_⟩
  first | exact Ext.refl _ | exact (Ext.refl _).alloc _ | exact Ext.drewN ((Ext.refl _).alloc _) _ | exact Ext.drewN (Ext.drewN ((Ext.refl _).alloc _) _) _
 ·have hA2 : ¬ (2 : Int) ≤ (n : Int) := by omega
  have hB : n = 1 := by have := (zu HH).pos; omega
  have q1 : decide ((1 : Int) < (n : Int)) = false := by rw [decide_eq_false_iff_not]; omega
  have q2 : decide ((2 : Int) < (n : Int)) = false := by rw [decide_eq_false_iff_not]; omega
  go_enter Tryz.func166, Tryz.ntmps166
  go_wp2
  try (go_quiet (fail); go_wp2)
  try (go_quiet (fail); go_wp2)
  refine bodyPost_ret (v := .bool false) (by simp [results, Tryz.results166, go_sem]) rfl ⟨by simp [hB], ?_⟩
  first | exact Ext.refl _ | exact (Ext.refl _).alloc _ | exact Ext.drewN ((Ext.refl _).alloc _) _ | exact Ext.drewN (Ext.drewN ((Ext.refl _).alloc _) _) _
set_option maxRecDepth 10000 in
set_option maxHeartbeats 4000000 in
theorem zdS (k j : Nat) (hk : (k = 19 ∧ j = 1) ∨ (k = 3 ∧ j = 0) ∨ (k = 35 ∧ j = 2)) (bs : List Int) (b off cap n x : Nat) (lo hi : Int) (w : World) (h : zlF bs b off n x k j lo hi w) (hN : nB x = 3) :
  Calls Tryz.prog 166 #[.slice (some ⟨b, off, none⟩) n cap] w fun e w' => e = .returned (.bool (zaP bs)) ∧ Ext w w' := by
 rcases hk with ⟨rfl, rfl⟩ | ⟨rfl, rfl⟩ | ⟨rfl, rfl⟩
 all_goals
  have g0 := h.cell 0 h.pos
  rw [h.first, Nat.add_zero] at g0
  have z0 : ¬ ((n : Int) = 0) := by have := h.pos; omega
  have z1 : (0 : Int) < (n : Int) := by have := h.pos; omega
  have x256 : (x : Int) < 256 := by have := h.x255; omega
  have t0 := h.tab
  have c0 := h.clo
  have c1 := h.chi
  have HH := zh h
  have hfull : zaP bs = (decide (3 ≤ n) || (decide (1 < n) && (decide (at0 bs 1 < lo) || decide (hi < at0 bs 1))) || (decide (2 < n) && (decide (at0 bs 2 < 128) || decide (191 < at0 bs 2)))) := by unfold zaP; rw [← h.len, h.first, hN, h.lo, h.hi]
  rw [hfull]
  clear h hfull hN
  by_cases hA : 3 ≤ n
  ·have hA2 : (3 : Int) ≤ (n : Int) := by omega
   go_enter Tryz.func166, Tryz.ntmps166
   go_wp2
   try (go_quiet (fail); go_wp2)
   try (go_quiet (fail); go_wp2)
   refine bodyPost_ret (v := .bool true) (by simp [results, Tryz.results166, go_sem]) rfl ⟨by simp [hA], ?_⟩
   first | exact Ext.refl _ | exact (Ext.refl _).alloc _ | exact Ext.drewN ((Ext.refl _).alloc _) _ | exact Ext.drewN (Ext.drewN ((Ext.refl _).alloc _) _) _
  ·have hA2 : ¬ (3 : Int) ≤ (n : Int) := by omega
   by_cases hB : n = 1
   ·have q1 : decide ((1 : Int) < (n : Int)) = false := by rw [decide_eq_false_iff_not]; omega
    have q2 : decide ((2 : Int) < (n : Int)) = false := by rw [decide_eq_false_iff_not]; omega
    go_enter Tryz.func166, Tryz.ntmps166
    go_wp2
    try (go_quiet (fail); go_wp2)
    try (go_quiet (fail); go_wp2)
    refine bodyPost_ret (v := .bool false) (by simp [results, Tryz.results166, go_sem]) rfl ⟨by simp [hB], ?_⟩
    first | exact Ext.refl _ | exact (Ext.refl _).alloc _ | exact Ext.drewN ((Ext.refl _).alloc _) _ | exact Ext.drewN (Ext.drewN ((Ext.refl _).alloc _) _) _
   ·have q1 : (1 : Int) < (n : Int) := by have := (zu HH).pos; omega
    have q1n : 1 < n := by have := (zu HH).pos; omega
    have g1 : ∀ o, (w.alloc o).cell? ⟨b, off + 1, none⟩ = some (.int .u8 (at0 bs 1)) := fun o => ((Ext.refl w).alloc o).cell ((zu HH).cell 1 q1n)
    obtain ⟨y, hy⟩ : ∃ y, y = at0 bs 1 := ⟨_, rfl⟩
    rw [← hy] at g1 ⊢
    clear hy
    by_cases hD : y < lo
    ·have hDb : decide (y < lo) = true := by simpa using hD
     go_enter Tryz.func166, Tryz.ntmps166
     go_wp2
     try (go_quiet (fail); go_wp2)
     try (go_quiet (fail); go_wp2)
     refine bodyPost_ret (v := .bool true) (by simp [results, Tryz.results166, go_sem]) rfl ⟨by simp [q1n, hD], ?_⟩
     first | exact Ext.refl _ | exact (Ext.refl _).alloc _ | exact Ext.drewN ((Ext.refl _).alloc _) _ | exact Ext.drewN (Ext.drewN ((Ext.refl _).alloc _) _) _
    ·have hDb : decide (y < lo) = false := by simpa using hD
     by_cases hE : hi < y
     ·have hEb : decide (hi < y) = true := by simpa using hE
      go_enter Tryz.func166, Tryz.ntmps166
      go_wp2
      try (go_quiet (fail); go_wp2)
      try (go_quiet (fail); go_wp2)
      refine bodyPost_ret (v := .bool true) (by simp [results, Tryz.results166, go_sem]) rfl ⟨by simp [q1n, hE], ?_⟩
      first | exact Ext.refl _ | exact (Ext.refl _).alloc _ | exact Ext.drewN ((Ext.refl _).alloc _) _ | exact Ext.drewN (Ext.drewN ((Ext.refl _).alloc _) _) _
     ·have hEb : decide (hi < y) = false := by simpa using hE
      have q2 : decide ((2 : Int) < (n : Int)) = false := by rw [decide_eq_false_iff_not]; omega
      have q2n : ¬ 2 < n := by omega
      go_enter Tryz.func166, Tryz.ntmps166
      go_wp2
      try (go_quiet (fail); go_wp2)
      try (go_quiet (fail); go_wp2)
      refine bodyPost_ret (v := .bool false) (by simp [results, Tryz.results166, go_sem]) rfl ⟨by simp [hA, hD, hE, q2n], ?_⟩
      first | exact Ext.refl _ | exact (Ext.refl _).alloc _ | exact Ext.drewN ((Ext.refl _).alloc _) _ | exact Ext.drewN (Ext.drewN ((Ext.refl _).alloc _) _) _
set_option maxRecDepth 10000 in
set_option maxHeartbeats 4000000 in
theorem zd5 (k j : Nat) (hk : (k = 52 ∧ j = 3) ∨ (k = 4 ∧ j = 0) ∨ (k = 68 ∧ j = 4)) (bs : List Int) (b off cap n x : Nat) (lo hi : Int) (w : World) (h : zlF bs b off n x k j lo hi w) (hN : nB x = 4) :
  Calls Tryz.prog 166 #[.slice (some ⟨b, off, none⟩) n cap] w fun e w' => e = .returned (.bool (zaP bs)) ∧ Ext w w' := by
 rcases hk with ⟨rfl, rfl⟩ | ⟨rfl, rfl⟩ | ⟨rfl, rfl⟩
 all_goals
  have g0 := h.cell 0 h.pos
  rw [h.first, Nat.add_zero] at g0
  have z0 : ¬ ((n : Int) = 0) := by have := h.pos; omega
  have z1 : (0 : Int) < (n : Int) := by have := h.pos; omega
  have x256 : (x : Int) < 256 := by have := h.x255; omega
  have t0 := h.tab
  have c0 := h.clo
  have c1 := h.chi
  have HH := zh h
  have hfull : zaP bs = (decide (4 ≤ n) || (decide (1 < n) && (decide (at0 bs 1 < lo) || decide (hi < at0 bs 1))) || (decide (2 < n) && (decide (at0 bs 2 < 128) || decide (191 < at0 bs 2)))) := by unfold zaP; rw [← h.len, h.first, hN, h.lo, h.hi]
  rw [hfull]
  clear h hfull hN
  by_cases hA : 4 ≤ n
  ·have hA2 : (4 : Int) ≤ (n : Int) := by omega
   go_enter Tryz.func166, Tryz.ntmps166
   go_wp2
   try (go_quiet (fail); go_wp2)
   try (go_quiet (fail); go_wp2)
   refine bodyPost_ret (v := .bool true) (by simp [results, Tryz.results166, go_sem]) rfl ⟨by simp [hA], ?_⟩
   first | exact Ext.refl _ | exact (Ext.refl _).alloc _ | exact Ext.drewN ((Ext.refl _).alloc _) _ | exact Ext.drewN (Ext.drewN ((Ext.refl _).alloc _) _) _
  ·have hA2 : ¬ (4 : Int) ≤ (n : Int) := by omega
   by_cases hB : n = 1
   ·have q1 : decide ((1 : Int) < (n : Int)) = false := by rw [decide_eq_false_iff_not]; omega
    have q2 : decide ((2 : Int) < (n : Int)) = false := by rw [decide_eq_false_iff_not]; omega
    go_enter Tryz.func166, Tryz.ntmps166
    go_wp2
    try (go_quiet (fail); go_wp2)
    try (go_quiet (fail); go_wp2)
    refine bodyPost_ret (v := .bool false) (by simp [results, Tryz.results166, go_sem]) rfl ⟨by simp [hB], ?_⟩
    first | exact Ext.refl _ | exact (Ext.refl _).alloc _ | exact Ext.drewN ((Ext.refl _).alloc _) _ | exact Ext.drewN (Ext.drewN ((Ext.refl _).alloc _) _) _
   ·have q1 : (1 : Int) < (n : Int) := by have := (zu HH).pos; omega
    have q1n : 1 < n := by have := (zu HH).pos; omega
    have g1 : ∀ o, (w.alloc o).cell? ⟨b, off + 1, none⟩ = some (.int .u8 (at0 bs 1)) := fun o => ((Ext.refl w).alloc o).cell ((zu HH).cell 1 q1n)
    obtain ⟨y, hy⟩ : ∃ y, y = at0 bs 1 := ⟨_, rfl⟩
    rw [← hy] at g1 ⊢
    clear hy
    by_cases hD : y < lo
    ·have hDb : decide (y < lo) = true := by simpa using hD
     go_enter Tryz.func166, Tryz.ntmps166
     go_wp2
     try (go_quiet (fail); go_wp2)
     try (go_quiet (fail); go_wp2)
     refine bodyPost_ret (v := .bool true) (by simp [results, Tryz.results166, go_sem]) rfl ⟨by simp [q1n, hD], ?_⟩
     first | exact Ext.refl _ | exact (Ext.refl _).alloc _ | exact Ext.drewN ((Ext.refl _).alloc _) _ | exact Ext.drewN (Ext.drewN ((Ext.refl _).alloc _) _) _
    ·have hDb : decide (y < lo) = false := by simpa using hD
     by_cases hE : hi < y
     ·have hEb : decide (hi < y) = true := by simpa using hE
      go_enter Tryz.func166, Tryz.ntmps166
      go_wp2
      try (go_quiet (fail); go_wp2)
      try (go_quiet (fail); go_wp2)
      refine bodyPost_ret (v := .bool true) (by simp [results, Tryz.results166, go_sem]) rfl ⟨by simp [q1n, hE], ?_⟩
      first | exact Ext.refl _ | exact (Ext.refl _).alloc _ | exact Ext.drewN ((Ext.refl _).alloc _) _ | exact Ext.drewN (Ext.drewN ((Ext.refl _).alloc _) _) _
     ·have hEb : decide (hi < y) = false := by simpa using hE
      by_cases hF : n = 2
      ·have q2 : decide ((2 : Int) < (n : Int)) = false := by rw [decide_eq_false_iff_not]; omega
       have q2n : ¬ 2 < n := by omega
       go_enter Tryz.func166, Tryz.ntmps166
       go_wp2
       try (go_quiet (fail); go_wp2)
       try (go_quiet (fail); go_wp2)
       refine bodyPost_ret (v := .bool false) (by simp [results, Tryz.results166, go_sem]) rfl ⟨by simp [hA, hD, hE, q2n], ?_⟩
       first | exact Ext.refl _ | exact (Ext.refl _).alloc _ | exact Ext.drewN ((Ext.refl _).alloc _) _ | exact Ext.drewN (Ext.drewN ((Ext.refl _).alloc _) _) _
      ·have q2 : (2 : Int) < (n : Int) := by omega
       have q2n : 2 < n := by omega
       have g2 : ∀ o, (w.alloc o).cell? ⟨b, off + 2, none⟩ = some (.int .u8 (at0 bs 2)) := fun o => ((Ext.refl w).alloc o).cell ((zu HH).cell 2 q2n)
       obtain ⟨z, hz⟩ : ∃ z, z = at0 bs 2 := ⟨_, rfl⟩
       rw [← hz] at g2 ⊢
       clear hz
       by_cases hG : z < 128
       ·have hGb : decide (z < 128) = true := by simpa using hG
        go_enter Tryz.func166, Tryz.ntmps166
        go_wp2
        try (go_quiet (fail); go_wp2)
        try (go_quiet (fail); go_wp2)
        refine bodyPost_ret (v := .bool true) (by simp [results, Tryz.results166, go_sem]) rfl ⟨by simp [q2n, hG], ?_⟩
        first | exact Ext.refl _ | exact (Ext.refl _).alloc _ | exact Ext.drewN ((Ext.refl _).alloc _) _ | exact Ext.drewN (Ext.drewN ((Ext.refl _).alloc _) _) _
       ·have hGb : decide (z < 128) = false := by simpa using hG
        by_cases hI : 191 < z
        ·have hIb : decide (191 < z) = true := by simpa using hI
         go_enter Tryz.func166, Tryz.ntmps166
         go_wp2
         try (go_quiet (fail); go_wp2)
         try (go_quiet (fail); go_wp2)
         refine bodyPost_ret (v := .bool true) (by simp [results, Tryz.results166, go_sem]) rfl ⟨by simp [q2n, hI], ?_⟩
         first | exact Ext.refl _ | exact (Ext.refl _).alloc _ | exact Ext.drewN ((Ext.refl _).alloc _) _ | exact Ext.drewN (Ext.drewN ((Ext.refl _).alloc _) _) _
        ·have hIb : decide (191 < z) = false := by simpa using hI
         go_enter Tryz.func166, Tryz.ntmps166
         go_wp2
         try (go_quiet (fail); go_wp2)
         try (go_quiet (fail); go_wp2)
         refine bodyPost_ret (v := .bool false) (by simp [results, Tryz.results166, go_sem]) rfl ⟨by simp [hA, hD, hE, hG, hI], ?_⟩
         first | exact Ext.refl _ | exact (Ext.refl _).alloc _ | exact Ext.drewN ((Ext.refl _).alloc _) _ | exact Ext.drewN (Ext.drewN ((Ext.refl _).alloc _) _) _
set_option maxHeartbeats 1000000 in
theorem ze6 (bs : List Int) (hb : zv bs) (v : Value) (w : World) (hv : zx w .u8 v bs) (h0 : 0 < bs.length) (hT : zka w) :
  Calls Tryz.prog 166 #[v] w fun e w' => e = .returned (.bool (zaP bs)) ∧ Ext w w' := by
 obtain ⟨ao, cap, rfl, _, hr⟩ := hv
 obtain ⟨b, off, rfl, hc⟩ := hr h0
 have hb0 := hb.at0 0
 obtain ⟨x, hx⟩ : ∃ x : Nat, at0 bs 0 = (x : Int) := ⟨(at0 bs 0).toNat, by omega⟩
 have h255 : x ≤ 255 := by omega
 have ht := hT.1 x (by omega)
 have g0 := hc 0 h0
 rw [hx, Nat.add_zero] at g0
 by_cases k1 : x < 128
 ·rw [show Lib.firstT x = 240 by unfold Lib.firstT; (repeat' split) <;> omega] at ht
  have hv : zaP bs = true := by unfold zaP; rw [hx, show nB x = 1 by unfold nB; (repeat' split) <;> omega]; simp; omega
  rw [hv]
  exact zjj b off cap _ x w h0 h255 g0 ht
 by_cases k2 : x < 194 ∨ 245 ≤ x
 ·rw [show Lib.firstT x = 241 by unfold Lib.firstT; (repeat' split) <;> omega] at ht
  have hv : zaP bs = true := by unfold zaP; rw [hx, show nB x = 1 by unfold nB; (repeat' split) <;> omega]; simp; omega
  rw [hv]
  exact ziO b off cap _ x w h0 h255 g0 ht
 by_cases k2a : 194 ≤ x ∧ x < 224
 ·rw [show Lib.firstT x = 2 by unfold Lib.firstT; (repeat' split) <;> omega] at ht
  exact zkR bs b off cap _ x 128 191 w ⟨rfl, h0, hx, h255, hc, ht, (hT.2 0 (by decide)).1, (hT.2 0 (by decide)).2, by unfold loB; (repeat' split) <;> omega, by unfold hiB; (repeat' split) <;> omega⟩ (by unfold nB; (repeat' split) <;> omega)
 by_cases k19a : x = 224
 ·rw [show Lib.firstT x = 19 by unfold Lib.firstT; (repeat' split) <;> omega] at ht
  exact zdS _ _ (.inl ⟨rfl, rfl⟩) bs b off cap _ x 160 191 w ⟨rfl, h0, hx, h255, hc, ht, (hT.2 1 (by decide)).1, (hT.2 1 (by decide)).2, by unfold loB; (repeat' split) <;> omega, by unfold hiB; (repeat' split) <;> omega⟩ (by unfold nB; (repeat' split) <;> omega)
 by_cases k3a : (225 ≤ x ∧ x < 237) ∨ (238 ≤ x ∧ x < 240)
 ·rw [show Lib.firstT x = 3 by unfold Lib.firstT; (repeat' split) <;> omega] at ht
  exact zdS _ _ (.inr (.inl ⟨rfl, rfl⟩)) bs b off cap _ x 128 191 w ⟨rfl, h0, hx, h255, hc, ht, (hT.2 0 (by decide)).1, (hT.2 0 (by decide)).2, by unfold loB; (repeat' split) <;> omega, by unfold hiB; (repeat' split) <;> omega⟩ (by unfold nB; (repeat' split) <;> omega)
 by_cases k35a : x = 237
 ·rw [show Lib.firstT x = 35 by unfold Lib.firstT; (repeat' split) <;> omega] at ht
  exact zdS _ _ (.inr (.inr ⟨rfl, rfl⟩)) bs b off cap _ x 128 159 w ⟨rfl, h0, hx, h255, hc, ht, (hT.2 2 (by decide)).1, (hT.2 2 (by decide)).2, by unfold loB; (repeat' split) <;> omega, by unfold hiB; (repeat' split) <;> omega⟩ (by unfold nB; (repeat' split) <;> omega)
 by_cases k52a : x = 240
 ·rw [show Lib.firstT x = 52 by unfold Lib.firstT; (repeat' split) <;> omega] at ht
  exact zd5 _ _ (.inl ⟨rfl, rfl⟩) bs b off cap _ x 144 191 w ⟨rfl, h0, hx, h255, hc, ht, (hT.2 3 (by decide)).1, (hT.2 3 (by decide)).2, by unfold loB; (repeat' split) <;> omega, by unfold hiB; (repeat' split) <;> omega⟩ (by unfold nB; (repeat' split) <;> omega)
 by_cases k4a : 241 ≤ x ∧ x < 244
 ·rw [show Lib.firstT x = 4 by unfold Lib.firstT; (repeat' split) <;> omega] at ht
  exact zd5 _ _ (.inr (.inl ⟨rfl, rfl⟩)) bs b off cap _ x 128 191 w ⟨rfl, h0, hx, h255, hc, ht, (hT.2 0 (by decide)).1, (hT.2 0 (by decide)).2, by unfold loB; (repeat' split) <;> omega, by unfold hiB; (repeat' split) <;> omega⟩ (by unfold nB; (repeat' split) <;> omega)
 by_cases k68a : x = 244
 ·rw [show Lib.firstT x = 68 by unfold Lib.firstT; (repeat' split) <;> omega] at ht
  exact zd5 _ _ (.inr (.inr ⟨rfl, rfl⟩)) bs b off cap _ x 128 143 w ⟨rfl, h0, hx, h255, hc, ht, (hT.2 4 (by decide)).1, (hT.2 4 (by decide)).2, by unfold loB; (repeat' split) <;> omega, by unfold hiB; (repeat' split) <;> omega⟩ (by unfold nB; (repeat' split) <;> omega)
 omega
end Go.Proofs.YtinfdhbnljnifaaGreatDoor
