import Derived.Test.YtlmgeobmjkbccaaDoorWri
import Derived.Test.YtlmgeobmjkbccaaDoorTx
import Derived.Deep.RegionHeldLaw
namespace Go.Proofs.YtlmgeobmjkbccaaDoor
open Go.RowKit
theorem cvA (z : Int) (W : World) (b : Nat) (h : W.cell? ⟨b, 0, none⟩ = some (.int .u8 z)) : (convert 26 9 (.slice (some ⟨b, 0, none⟩) 1 1)).run Tryd.prog W = .ok (.string (toBA [z])) W :=
  run_b2s _ _ _ _ Tryd.underlying26 Tryd.underlying5 Tryd.underlying9 _ [z] ⟨some ⟨b, 0, none⟩, 1, rfl, by simp, fun _ => ⟨b, 0, rfl, fun j hj => by
    have : j = 0 := by simp at hj; omega
    subst this
    simpa [at0] using h⟩⟩
set_option maxRecDepth 10000 in
set_option maxHeartbeats 4000000 in
theorem l6Dec_any : ∀ (f : Nat) (n : Int), n.toNat ≤ f → 0 < n → n ≤ 99999999 → ∀ w : World, Calls Tryd.prog 28 #[.int .i64 n] w fun e w' => e = .returned (.string (toBA (dg n.toNat))) ∧ Ext w w'
  | 0, n, h, h0, _, _ => by omega
  | f + 1, n, h, h0, h1, w => by
    have hst := dg_step n.toNat (by omega)
    by_cases hm : n < 10
    · have e0 : dg (n.toNat / 10) = [] := by rw [show n.toNat / 10 = 0 by omega]; rfl
      have hfin : Hid (toBA (dg n.toNat) = toBA [48 + n]) := by
        refine hide ?_
        rw [hst, e0, show ((n.toNat % 10 : Nat) : Int) = n by omega]; rfl
      have hc := cvA (48 + n)
      clear hst e0 h
      go_enter Tryd.func28, Tryd.ntmps28
      go_wp2
      go_ret
      exact ⟨ret_str (unhide hfin).symm, (Ext.refl _).alloc _⟩
    · have hb : ¬ n < 10 := by omega
      have hw1 : IntKind.i64.wrap (n.tdiv 10) = n / 10 := by rw [IntKind.wrap_i64, Int.tdiv_eq_ediv_of_nonneg (by omega)]; omega
      have hw2 : n.tmod 10 = n % 10 := Int.tmod_eq_emod_of_nonneg (by omega)
      have hw4 : IntKind.u8.wrap (IntKind.i64.wrap (48 + n.tmod 10)) = 48 + n % 10 := by rw [hw2, IntKind.wrap_i64, IntKind.wrap_u8]; omega
      obtain ⟨z, hz⟩ : ∃ z, z = IntKind.u8.wrap (IntKind.i64.wrap (48 + n.tmod 10)) := ⟨_, rfl⟩
      have hz4 := hz.trans hw4
      have hc := cvA z
      rw [hz] at hc
      have ih := hide (fun w => l6Dec_any f (n / 10) (by omega) (by omega) (by omega) w)
      rw [← hw1] at ih
      have hl := dg_short 8 (n / 10).toNat (by omega)
      have hs1 : (toBA (dg (n / 10).toNat)).size + (toBA [z]).size ≤ 9223372036854775807 := by rw [toBA_size, toBA_size]; simp; omega
      have hadd := fun W => run_string_add_sum (P := Tryd.prog) W _ _ hs1
      rw [toBA_app, ← hw1, hz] at hadd
      have hfin : Hid (toBA (dg n.toNat) = toBA (dg (IntKind.i64.wrap (n.tdiv 10)).toNat ++ [IntKind.u8.wrap (IntKind.i64.wrap (48 + n.tmod 10))])) := by
        refine hide ?_
        rw [hst, hw1, hw4, show n.toNat / 10 = (n / 10).toNat by omega, show ((n.toNat % 10 : Nat) : Int) = n % 10 by omega]
      clear hst hs1 hl h hw1 hw2 hw4 hz4 hz
      go_enter Tryd.func28, Tryd.ntmps28
      go_wp2
      go_region_held_law (fun W => Ext w W) (repeat' first | exact Ext.refl _ | exact hE5 | refine Ext.drew ?_ | refine Ext.alloc ?_ _) (first | (go_at_call 28; refine ((unhide ih) _).mono ?_; rintro e w1 ⟨rfl, hE⟩; obtain ⟨hr1, _⟩ := hE.rules; have hE5 : Ext w w1 := Ext.trans (by repeat' first | exact Ext.refl _ | refine Ext.drew ?_ | refine Ext.alloc ?_ _) hE; clear hE))
      all_goals
        go_wp2
        go_ret
        refine ⟨ret_str (unhide hfin).symm, ?_⟩
        repeat' first | exact Ext.refl _ | exact hE5 | refine Ext.drew ?_ | refine Ext.alloc ?_ _
set_option maxRecDepth 10000 in
set_option maxHeartbeats 1000000 in
theorem l6Go_any (n c : Int) (h1 : n ≤ 99999999) (w : World) :
    Calls Tryd.prog 18 #[.int .i64 n, .string (toBA [c])] w fun e w' => e = .returned (.string (toBA (goL n c))) ∧ Ext w w' := by
  by_cases h0 : n ≤ 0
  · have hfin : Hid (toBA (goL n c) = { data := #[] }) := by refine hide ?_; rw [goL, if_pos h0]; rfl
    go_enter Tryd.func18, Tryd.ntmps18
    go_wp2
    go_ret
    exact ⟨ret_str (unhide hfin).symm, Ext.refl _⟩
  · have hcon := hide (l6Dec_any n.toNat n (Nat.le_refl _) (by omega) h1 w)
    have hl := dg_short 8 n.toNat (by omega)
    have e1 : ({ data := #[27, 91] } : ByteArray) = toBA [27, 91] := rfl
    have hs1 : (toBA [27, 91]).size + (toBA (dg n.toNat)).size ≤ 9223372036854775807 := by rw [toBA_size, toBA_size]; simp; omega
    have hadd := fun W => run_string_add_sum (P := Tryd.prog) W _ _ hs1
    obtain ⟨L1, hL1⟩ : ∃ L1, L1 = [27, 91] ++ dg n.toNat := ⟨_, rfl⟩
    have hs2 : (toBA L1).size + (toBA [c]).size ≤ 9223372036854775807 := by rw [toBA_size, toBA_size, hL1]; simp; omega
    have hadd2 := fun W => run_string_add_sum (P := Tryd.prog) W _ _ hs2
    rw [toBA_app, ← e1, ← hL1] at hadd
    rw [toBA_app] at hadd2
    have hfin : Hid (toBA (goL n c) = toBA (L1 ++ [c])) := by refine hide ?_; rw [goL, if_neg h0, hL1]; rfl
    clear hs1 hs2 hl e1 hL1
    go_enter Tryd.func18, Tryd.ntmps18
    go_wp2_with fail
    refine (unhide hcon).mono ?_
    rintro e w1 ⟨rfl, E1⟩
    go_wp2
    go_ret
    exact ⟨ret_str (unhide hfin).symm, E1⟩
end Go.Proofs.YtlmgeobmjkbccaaDoor
