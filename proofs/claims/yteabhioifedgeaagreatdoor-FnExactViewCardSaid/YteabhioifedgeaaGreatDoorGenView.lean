import Derived.Test.YteabhioifedgeaaGreatDoorWhole
import Derived.Deep.RegionLaw
import Derived.Deep.RegionHeld3
namespace Go.Proofs.YteabhioifedgeaaGreatDoor
open Go.RowKit

theorem infoSessionimpl : (Tryz.prog.info? 63).map (·.size) = some 17 := by kernel_rfl
theorem infoSessionlaws : (Tryz.prog.info? 74).map (·.size) = some 17 := by kernel_rfl
set_option linter.unusedSimpArgs false in
set_option maxRecDepth 10000 in
set_option maxHeartbeats 8000000 in
theorem law_View (p0_0 : ByteArray) (p0_1 : Int) (p0_2 : Int) (p0_3 : ByteArray) (p0_4 : ByteArray) (p0_5 : ByteArray) (p0_6a : Option Addr) (p0_6n : Nat) (p0_6c : Nat) (p0_7a : Option Addr) (p0_7n : Nat) (p0_7c : Nat) (p0_8 : Bool) (p0_9 : Bool) (p0_10a : Option Addr) (p0_10n : Nat) (p0_10c : Nat) (p0_11 : Int) (p0_12 : ByteArray) (p0_13 : Bool) (p0_14a : Option Addr) (p0_14n : Nat) (p0_14c : Nat) (p0_15a : Option Addr) (p0_15n : Nat) (p0_15c : Nat) (p0_16a : Option Addr) (p0_16n : Nat) (p0_16c : Nat) (q1 : Int) (q2 : Int) (w : World)
    (X0 : Kd) (MX0 : Int → Kd) (mX0 : Nat)
    (K0 : Kd) (MK0 : Int → Kd) (mK0 : Nat)
    (Fit : Prop)
    (HZ : Hid (∀ W, Ext w W → Calls Tryz.prog 41 #[.agg #[.string p0_0, .int .i64 p0_1, .int .i64 p0_2, .string p0_3, .string p0_4, .string p0_5, .slice p0_6a p0_6n p0_6c, .slice p0_7a p0_7n p0_7c, .bool p0_8, .bool p0_9, .slice p0_10a p0_10n p0_10c, .int .i64 p0_11, .string p0_12, .bool p0_13, .slice p0_14a p0_14n p0_14c, .slice p0_15a p0_15n p0_15c, .slice p0_16a p0_16n p0_16c], .int .i64 1048576] W fun e w' => ∃ r : Int, e = .returned (.int .i64 r) ∧ (0 ≤ r → Fit) ∧ Ext W w'))
    (HTo0' : Hid (Fit → ∀ W, Ext w W → Calls Tryz.prog 43 #[.agg #[.string p0_0, .int .i64 p0_1, .int .i64 p0_2, .string p0_3, .string p0_4, .string p0_5, .slice p0_6a p0_6n p0_6c, .slice p0_7a p0_7n p0_7c, .bool p0_8, .bool p0_9, .slice p0_10a p0_10n p0_10c, .int .i64 p0_11, .string p0_12, .bool p0_13, .slice p0_14a p0_14n p0_14c, .slice p0_15a p0_15n p0_15c, .slice p0_16a p0_16n p0_16c]] W fun e w' => ∃ u S, e = .returned u ∧ X0.O w' W.heap.size S u ∧ Ext W w'))
    (ShX0 : Hid (∀ W u, X0.R W u → ∃ (x0 : ByteArray) (x1 : Int) (x2 : Int) (x3 : ByteArray) (x4 : ByteArray) (x5 : ByteArray) (x6a : Option Addr) (x6n : Nat) (x6c : Nat) (x7a : Option Addr) (x7n : Nat) (x7c : Nat) (x8 : Bool) (x9 : Bool) (x10a : Option Addr) (x10n : Nat) (x10c : Nat) (x11 : Int) (x12 : ByteArray) (x13 : Bool) (x14a : Option Addr) (x14n : Nat) (x14c : Nat) (x15a : Option Addr) (x15n : Nat) (x15c : Nat) (x16a : Option Addr) (x16n : Nat) (x16c : Nat), u = .agg #[.string x0, .int .i64 x1, .int .i64 x2, .string x3, .string x4, .string x5, .slice x6a x6n x6c, .slice x7a x7n x7c, .bool x8, .bool x9, .slice x10a x10n x10c, .int .i64 x11, .string x12, .bool x13, .slice x14a x14n x14c, .slice x15a x15n x15c, .slice x16a x16n x16c]))
    (HEqX0' : Hid (Fit → EqOk 37 X0)) (HMkX0' : Hid (Fit → MarkOk 38 X0 MX0 mX0 ∧ mX0 ≤ 1073741824))
    (HS' : Hid (Fit → ∀ (W : World) (u0 : Value), Ext w W → X0.R W u0 → Calls Tryz.prog 42 #[u0] W fun e w' => ∃ v0, e = .returned (.tuple #[v0, .int .i64 q1, .int .i64 q2]) ∧ K0.R w' v0 ∧ Ext W w'))
    (HI' : Hid (Fit → ∀ (W : World) (u0 : Value), Ext w W → X0.R W u0 → Calls Tryz.prog 44 #[u0] W fun e w' => ∃ v0 S0, e = .returned (.tuple #[v0, .int .i64 q1, .int .i64 q2]) ∧ K0.O w' W.heap.size S0 v0 ∧ Ext W w'))
    (ShK0 : Hid (∀ W u, K0.R W u → ∃ (xa : Option Addr) (xn : Nat) (xc : Nat), u = .slice xa xn xc))
    (HEqK0' : Hid (Fit → EqOk 45 K0)) (HMkK0' : Hid (Fit → MarkOk 46 K0 MK0 mK0 ∧ mK0 ≤ 1073741824)) (HHdK0' : Hid (Fit → HeldOk 47 MK0 mK0))
    : Calls Tryz.prog 7 #[.agg #[.string p0_0, .int .i64 p0_1, .int .i64 p0_2, .string p0_3, .string p0_4, .string p0_5, .slice p0_6a p0_6n p0_6c, .slice p0_7a p0_7n p0_7c, .bool p0_8, .bool p0_9, .slice p0_10a p0_10n p0_10c, .int .i64 p0_11, .string p0_12, .bool p0_13, .slice p0_14a p0_14n p0_14c, .slice p0_15a p0_15n p0_15c, .slice p0_16a p0_16n p0_16c]] w fun e w' => e = .returned (.bool true) ∧ Below w.heap.size w w' := by
  go_enter Tryz.func7, Tryz.ntmps7
  go_wp2_with fail
  obtain ⟨W0, hW0⟩ : ∃ W0, W0 = w.alloc (.cells #[.string p0_0, .int .i64 p0_1, .int .i64 p0_2, .string p0_3, .string p0_4, .string p0_5, .slice p0_6a p0_6n p0_6c, .slice p0_7a p0_7n p0_7c, .bool p0_8, .bool p0_9, .slice p0_10a p0_10n p0_10c, .int .i64 p0_11, .string p0_12, .bool p0_13, .slice p0_14a p0_14n p0_14c, .slice p0_15a p0_15n p0_15c, .slice p0_16a p0_16n p0_16c] 74) := ⟨_, rfl⟩
  rw [← hW0]
  have E : Ext w W0 := by rw [hW0]; exact (Ext.refl w).alloc _
  have HB_p : Hid (W0.heap[w.heap.size]? = some (.cells #[.string p0_0, .int .i64 p0_1, .int .i64 p0_2, .string p0_3, .string p0_4, .string p0_5, .slice p0_6a p0_6n p0_6c, .slice p0_7a p0_7n p0_7c, .bool p0_8, .bool p0_9, .slice p0_10a p0_10n p0_10c, .int .i64 p0_11, .string p0_12, .bool p0_13, .slice p0_14a p0_14n p0_14c, .slice p0_15a p0_15n p0_15c, .slice p0_16a p0_16n p0_16c] 74 (0, 0))) := hide (by rw [hW0]; exact new_block w _)
  have hzW0 := hide (lt_of_block (unhide HB_p))
  clear hW0
  refine ((unhide HZ) _ E).mono ?_
  rintro e w1 ⟨r, rfl, hr, F1⟩
  have hs2 := hide (F1).size
  replace E := E.trans F1
  replace HB_p := hide ((F1).kept (unhide HB_p))
  by_cases hr0 : r < 0
  · go_wp2
    go_ret
    exact ⟨rfl, E.below⟩
  have hfit : Fit := hr (by omega)
  clear hr HZ
  have HTo0 := hide ((unhide HTo0') hfit)
  have HEqX0 := hide ((unhide HEqX0') hfit)
  have HMkX0 := hide ((unhide HMkX0') hfit).1
  have hmX0 := ((unhide HMkX0') hfit).2
  clear HMkX0'
  clear HTo0' HEqX0'
  have HEqK0 := hide ((unhide HEqK0') hfit)
  have HMkK0 := hide ((unhide HMkK0') hfit).1
  have hmK0 := ((unhide HMkK0') hfit).2
  have HHdK0 := hide ((unhide HHdK0') hfit)
  clear HEqK0' HMkK0' HHdK0'
  have HS := hide ((unhide HS') hfit)
  have HI := hide ((unhide HI') hfit)
  clear HS' HI' hfit
  go_wp2_with (refine wpList_load_blk rfl 74 _ rfl (w.heap.size) rfl _ _ _ _ (unhide HB_p) Tryz.underlying74 rfl infoSessionlaws ?_)
  refine ((unhide HTo0) _ E).mono ?_
  rintro e w3 ⟨ut0, St0, rfl, ot0, F4⟩
  have HL_t0 : Hid (∀ g, St0 g → w1.heap.size ≤ g ∧ g < w3.heap.size) := hide (X0.lt ot0)
  have hs5 := hide (F4).size
  replace E := E.trans F4
  replace HB_p := hide ((F4).kept (unhide HB_p))
  obtain ⟨t0_0, t0_1, t0_2, t0_3, t0_4, t0_5, t0_6a, t0_6n, t0_6c, t0_7a, t0_7n, t0_7c, t0_8, t0_9, t0_10a, t0_10n, t0_10c, t0_11, t0_12, t0_13, t0_14a, t0_14n, t0_14c, t0_15a, t0_15n, t0_15c, t0_16a, t0_16n, t0_16c, rfl⟩ := (unhide ShX0) _ _ (X0.reads ot0)
  have HO_t0 := hide ot0
  clear ot0
  go_wp2_with fail
  refine ((unhide HS) _ _ E (X0.reads (unhide HO_t0))).mono ?_
  rintro e w6 ⟨uw0, rfl, rw0, F7⟩
  have hs8 := hide (F7).size
  replace E := E.trans F7
  replace HB_p := hide ((F7).kept (unhide HB_p))
  replace HO_t0 := hide (X0.oext (unhide HO_t0) F7)
  obtain ⟨w0_a, w0_n, w0_c, rfl⟩ := (unhide ShK0) _ _ rw0
  have HR_w0 := hide rw0
  clear rw0
  have HEw := hide (Ext.refl w6)
  clear HO_t0
  go_wp2_with (refine wpList_load_blk rfl 74 _ rfl (w.heap.size) rfl _ _ _ _ (unhide HB_p) Tryz.underlying74 rfl infoSessionlaws ?_)
  refine ((unhide HTo0) _ E).mono ?_
  rintro e w9 ⟨ux0, Sx0, rfl, ox0, F10⟩
  have HL_x0 : Hid (∀ g, Sx0 g → w6.heap.size ≤ g ∧ g < w9.heap.size) := hide (X0.lt ox0)
  have hs11 := hide (F10).size
  replace E := E.trans F10
  replace HB_p := hide ((F10).kept (unhide HB_p))
  replace HEw := hide ((unhide HEw).trans F10)
  obtain ⟨x0_0, x0_1, x0_2, x0_3, x0_4, x0_5, x0_6a, x0_6n, x0_6c, x0_7a, x0_7n, x0_7c, x0_8, x0_9, x0_10a, x0_10n, x0_10c, x0_11, x0_12, x0_13, x0_14a, x0_14n, x0_14c, x0_15a, x0_15n, x0_15c, x0_16a, x0_16n, x0_16c, rfl⟩ := (unhide ShX0) _ _ (X0.reads ox0)
  have HO_x0 := hide ox0
  clear ox0
  go_wp2_with (refine wpList_load_blk rfl 63 _ rfl (w9.heap.size) rfl _ _ _ _ (new_block _ _) Tryz.underlying63 rfl infoSessionimpl ?_)
  obtain ⟨V12, hV12⟩ : ∃ V12, V12 = w9.alloc (.cells #[.string x0_0, .int .i64 x0_1, .int .i64 x0_2, .string x0_3, .string x0_4, .string x0_5, .slice x0_6a x0_6n x0_6c, .slice x0_7a x0_7n x0_7c, .bool x0_8, .bool x0_9, .slice x0_10a x0_10n x0_10c, .int .i64 x0_11, .string x0_12, .bool x0_13, .slice x0_14a x0_14n x0_14c, .slice x0_15a x0_15n x0_15c, .slice x0_16a x0_16n x0_16c] 63) := ⟨_, rfl⟩
  rw [← hV12]
  have FV12 : Ext w9 V12 := by rw [hV12]; exact (Ext.refl w9).alloc _
  have HB_x0 : Hid (V12.heap[w9.heap.size]? = some (.cells #[.string x0_0, .int .i64 x0_1, .int .i64 x0_2, .string x0_3, .string x0_4, .string x0_5, .slice x0_6a x0_6n x0_6c, .slice x0_7a x0_7n x0_7c, .bool x0_8, .bool x0_9, .slice x0_10a x0_10n x0_10c, .int .i64 x0_11, .string x0_12, .bool x0_13, .slice x0_14a x0_14n x0_14c, .slice x0_15a x0_15n x0_15c, .slice x0_16a x0_16n x0_16c] 63 (0, 0))) := hide (by rw [hV12]; exact new_block w9 _)
  have hzV12 := hide (lt_of_block (unhide HB_x0))
  clear hV12
  have hs13 := hide (FV12).size
  replace E := E.trans FV12
  replace HB_p := hide ((FV12).kept (unhide HB_p))
  replace HO_x0 := hide (X0.oext (unhide HO_x0) FV12)
  replace HEw := hide ((unhide HEw).trans FV12)
  refine ((unhide HI) _ _ E (X0.reads (unhide HO_x0))).mono ?_
  rintro e w14 ⟨ug0, Sg0, rfl, og0, F15⟩
  have HL_g0 : Hid (∀ g, Sg0 g → V12.heap.size ≤ g ∧ g < w14.heap.size) := hide (K0.lt og0)
  have hs16 := hide (F15).size
  replace E := E.trans F15
  replace HB_p := hide ((F15).kept (unhide HB_p))
  replace HB_x0 := hide ((F15).kept (unhide HB_x0))
  replace HO_x0 := hide (X0.oext (unhide HO_x0) F15)
  replace HEw := hide ((unhide HEw).trans F15)
  obtain ⟨g0_a, g0_n, g0_c, rfl⟩ := (unhide ShK0) _ _ (K0.reads og0)
  have HO_g0 := hide og0
  clear og0
  go_wp2_with fail
  refine ((unhide HEqK0) _ _ _ (K0.reads (unhide HO_g0)) (K0.rext (unhide HR_w0) (unhide HEw))).mono ?_
  rintro e w17 ⟨rfl, F18⟩
  have hs19 := hide (F18).size
  replace E := E.trans F18
  replace HB_p := hide ((F18).kept (unhide HB_p))
  replace HB_x0 := hide ((F18).kept (unhide HB_x0))
  replace HO_x0 := hide (X0.oext (unhide HO_x0) F18)
  replace HO_g0 := hide (K0.oext (unhide HO_g0) F18)
  replace HEw := hide ((unhide HEw).trans F18)
  go_wp2
  have HTt := hide (fun U (hU : Ext w17 U) => (unhide HTo0) U (E.trans hU))
  refine wp_region_held_drew (S := fun W => W.heap[w9.heap.size]? = some (.cells #[.string x0_0, .int .i64 x0_1, .int .i64 x0_2, .string x0_3, .string x0_4, .string x0_5, .slice x0_6a x0_6n x0_6c, .slice x0_7a x0_7n x0_7c, .bool x0_8, .bool x0_9, .slice x0_10a x0_10n x0_10c, .int .i64 x0_11, .string x0_12, .bool x0_13, .slice x0_14a x0_14n x0_14c, .slice x0_15a x0_15n x0_15c, .slice x0_16a x0_16n x0_16c] 63 (0, 0)) ∧ W.heap[w.heap.size]? = some (.cells #[.string p0_0, .int .i64 p0_1, .int .i64 p0_2, .string p0_3, .string p0_4, .string p0_5, .slice p0_6a p0_6n p0_6c, .slice p0_7a p0_7n p0_7c, .bool p0_8, .bool p0_9, .slice p0_10a p0_10n p0_10c, .int .i64 p0_11, .string p0_12, .bool p0_13, .slice p0_14a p0_14n p0_14c, .slice p0_15a p0_15n p0_15c, .slice p0_16a p0_16n p0_16c] 74 (0, 0))) (by kernel_rfl) ⟨unhide HB_x0, unhide HB_p⟩ (fun hHeld => ?_)
  refine wpAnyH_take (i := 0) (v := .agg #[.string x0_0, .int .i64 x0_1, .int .i64 x0_2, .string x0_3, .string x0_4, .string x0_5, .slice x0_6a x0_6n x0_6c, .slice x0_7a x0_7n x0_7c, .bool x0_8, .bool x0_9, .slice x0_10a x0_10n x0_10c, .int .i64 x0_11, .string x0_12, .bool x0_13, .slice x0_14a x0_14n x0_14c, .slice x0_15a x0_15n x0_15c, .slice x0_16a x0_16n x0_16c]) rfl (by kernel_rfl) (by kernel_rfl) (by kernel_rfl) (fun _ _ _ h => h) (Or.inl ⟨by rfl, ?_⟩) (by assumption) ?_
  · intro w' hSw; exact yields_load_blk 63 _ rfl (w9.heap.size) rfl _ _ _ _ hSw.1 Tryz.underlying63 rfl infoSessionimpl
  simp only [Act.put, List.getElem_toArray, List.getElem_cons_succ, List.getElem_cons_zero, List.setIfInBounds_toArray, List.set_cons_zero, List.set_cons_succ]
  refine wpAnyH_take (i := 1) (v := .agg #[.string p0_0, .int .i64 p0_1, .int .i64 p0_2, .string p0_3, .string p0_4, .string p0_5, .slice p0_6a p0_6n p0_6c, .slice p0_7a p0_7n p0_7c, .bool p0_8, .bool p0_9, .slice p0_10a p0_10n p0_10c, .int .i64 p0_11, .string p0_12, .bool p0_13, .slice p0_14a p0_14n p0_14c, .slice p0_15a p0_15n p0_15c, .slice p0_16a p0_16n p0_16c]) rfl (by kernel_rfl) (by kernel_rfl) (by kernel_rfl) (fun _ _ _ h => h) (Or.inl ⟨by rfl, ?_⟩) (by assumption) ?_
  · intro w' hSw; exact yields_load_blk 74 _ rfl (w.heap.size) rfl _ _ _ _ hSw.2 Tryz.underlying74 rfl infoSessionlaws
  simp only [Act.put, List.getElem_toArray, List.getElem_cons_succ, List.getElem_cons_zero, List.setIfInBounds_toArray, List.set_cons_zero, List.set_cons_succ]
  refine wpAnyH_ready (rs := [2]) (by kernel_rfl) (by simp) ?_
  refine AllReadyH.cons rfl (fun K hK => ?_) AllReadyH.nil
  go_simp
  go_wp2_with (go_at_call 43; refine ((unhide HTt) _ (Ext.refl w17).drew).mono ?_; rintro e w20 ⟨uT, ST, rfl, oT, FT⟩; have he' := (Ext.refl w17).drew.trans FT; obtain ⟨z0, z1, z2, z3, z4, z5, z6, z7, z8, z9, z10, z11, z12, z13, z14, z15, z16, z17, z18, z19, z20, z21, z22, z23, z24, z25, z26, z27, z28, rfl⟩ := (unhide ShX0) _ _ (X0.reads oT); have RT := hide (X0.reads oT); clear oT FT)
  refine hK.out _ _ ⟨he'.kept (unhide HB_x0), he'.kept (unhide HB_p)⟩ (fun hHeld => ?_)
  clear hK K
  refine wpAnyH_ready (rs := [3]) (by kernel_rfl) (by simp) ?_
  refine AllReadyH.cons rfl (fun K hK => ?_) AllReadyH.nil
  go_simp
  go_wp2_with (go_at_call 37; refine ((unhide HEqX0) _ _ _ (X0.rext (X0.reads (unhide HO_x0)) he') (unhide RT)).mono ?_; rintro e w21 ⟨rfl, FE⟩; have he' := he'.trans FE; clear FE)
  refine hK.out _ _ ⟨he'.kept (unhide HB_x0), he'.kept (unhide HB_p)⟩ (fun hHeld => ?_)
  clear hK K
  refine wpAnyH_take (i := 4) (v := ?_) rfl (by kernel_rfl) (by kernel_rfl) (by kernel_rfl) (fun _ _ _ h => h) (Or.inl ⟨by rfl, ?_⟩) (by assumption) ?_
  rotate_left
  · intro w' hSw; go_simp <;> with_reducible rfl
  simp only [Act.put, List.getElem_toArray, List.getElem_cons_succ, List.getElem_cons_zero, List.setIfInBounds_toArray, List.set_cons_zero, List.set_cons_succ]
  refine wpAnyH_done (by kernel_rfl) ?_ _
  clear HTt RT 
  have F22 := he'
  clear he'
  have hs23 := hide (F22).size
  replace E := E.trans F22
  replace HB_p := hide ((F22).kept (unhide HB_p))
  replace HB_x0 := hide ((F22).kept (unhide HB_x0))
  replace HO_x0 := hide (X0.oext (unhide HO_x0) F22)
  replace HO_g0 := hide (K0.oext (unhide HO_g0) F22)
  replace HEw := hide ((unhide HEw).trans F22)
  go_wp2_with (refine wpList_load_blk rfl 63 _ rfl (w9.heap.size) rfl _ _ _ _ (unhide HB_x0) Tryz.underlying63 rfl infoSessionimpl ?_)
  refine ((unhide HMkX0) _ _ _ _ _ (unhide HO_x0) (by omega) (by omega)).mono ?_
  rintro e w24 ⟨rfl, om, F25⟩
  replace E := F25.ext E (fun _ h9 => by have b9 := (unhide HL_x0) _ h9; have z0 := unhide hzW0; have z1 := unhide hs2; have z2 := unhide hs5; have z3 := unhide hs8; have z4 := unhide hs11; have z5 := unhide hzV12; have z6 := unhide hs13; have z7 := unhide hs16; have z8 := unhide hs19; have z9 := unhide hs23; omega)
  replace HEw := hide (F25.ext (unhide HEw) (fun _ h9 => by have b9 := (unhide HL_x0) _ h9; have z0 := unhide hzW0; have z1 := unhide hs2; have z2 := unhide hs5; have z3 := unhide hs8; have z4 := unhide hs11; have z5 := unhide hzV12; have z6 := unhide hs13; have z7 := unhide hs16; have z8 := unhide hs19; have z9 := unhide hs23; omega))
  replace HB_p := hide (F25.kept (unhide HB_p) (fun h9 => by have b9 := (unhide HL_x0) _ h9; have z0 := unhide hzW0; have z1 := unhide hs2; have z2 := unhide hs5; have z3 := unhide hs8; have z4 := unhide hs11; have z5 := unhide hzV12; have z6 := unhide hs13; have z7 := unhide hs16; have z8 := unhide hs19; have z9 := unhide hs23; omega))
  replace HB_x0 := hide (F25.kept (unhide HB_x0) (fun h9 => by have b9 := (unhide HL_x0) _ h9; have z0 := unhide hzW0; have z1 := unhide hs2; have z2 := unhide hs5; have z3 := unhide hs8; have z4 := unhide hs11; have z5 := unhide hzV12; have z6 := unhide hs13; have z7 := unhide hs16; have z8 := unhide hs19; have z9 := unhide hs23; omega))
  replace HO_g0 := hide (K0.ofr (unhide HO_g0) F25 (fun q9 h8 h9 => by have b8 := (unhide HL_g0) q9 h8; have b9 := (unhide HL_x0) q9 h9; have z0 := unhide hzW0; have z1 := unhide hs2; have z2 := unhide hs5; have z3 := unhide hs8; have z4 := unhide hs11; have z5 := unhide hzV12; have z6 := unhide hs13; have z7 := unhide hs16; have z8 := unhide hs19; have z9 := unhide hs23; omega))
  have hs26 := hide F25.size
  replace HO_x0 := hide om
  clear om
  have hkk : ¬ (1 + (mX0 : Int) : Int) < 0 := by omega
  clear HO_x0
  clear HB_x0
  go_wp2_with fail
  refine ((unhide HEqK0) _ _ _ (K0.reads (unhide HO_g0)) (K0.rext (unhide HR_w0) (unhide HEw))).mono ?_
  rintro e w27 ⟨rfl, F28⟩
  have hs29 := hide (F28).size
  replace E := E.trans F28
  replace HB_p := hide ((F28).kept (unhide HB_p))
  replace HO_g0 := hide (K0.oext (unhide HO_g0) F28)
  replace HEw := hide ((unhide HEw).trans F28)
  go_wp2_with fail
  refine ((unhide HMkK0) _ _ _ _ _ (unhide HO_g0) (by omega) (by omega)).mono ?_
  rintro e w30 ⟨rfl, om, F31⟩
  replace E := F31.ext E (fun _ h9 => by have b9 := (unhide HL_g0) _ h9; have z0 := unhide hzW0; have z1 := unhide hs2; have z2 := unhide hs5; have z3 := unhide hs8; have z4 := unhide hs11; have z5 := unhide hzV12; have z6 := unhide hs13; have z7 := unhide hs16; have z8 := unhide hs19; have z9 := unhide hs23; have z10 := unhide hs26; have z11 := unhide hs29; omega)
  replace HEw := hide (F31.ext (unhide HEw) (fun _ h9 => by have b9 := (unhide HL_g0) _ h9; have z0 := unhide hzW0; have z1 := unhide hs2; have z2 := unhide hs5; have z3 := unhide hs8; have z4 := unhide hs11; have z5 := unhide hzV12; have z6 := unhide hs13; have z7 := unhide hs16; have z8 := unhide hs19; have z9 := unhide hs23; have z10 := unhide hs26; have z11 := unhide hs29; omega))
  replace HB_p := hide (F31.kept (unhide HB_p) (fun h9 => by have b9 := (unhide HL_g0) _ h9; have z0 := unhide hzW0; have z1 := unhide hs2; have z2 := unhide hs5; have z3 := unhide hs8; have z4 := unhide hs11; have z5 := unhide hzV12; have z6 := unhide hs13; have z7 := unhide hs16; have z8 := unhide hs19; have z9 := unhide hs23; have z10 := unhide hs26; have z11 := unhide hs29; omega))
  have hs32 := hide F31.size
  replace HO_g0 := hide om
  clear om
  have hq0 : ¬ (1 + (mK0 : Int) : Int) < 0 := by omega
  go_wp2_with fail
  refine ((unhide HHdK0) _ _ _ ((MK0 (1)).reads (unhide HO_g0)) (by omega) (by omega)).mono ?_
  rintro e w33 ⟨rfl, F34⟩
  have hs35 := hide (F34).size
  replace E := E.trans F34
  replace HB_p := hide ((F34).kept (unhide HB_p))
  replace HO_g0 := hide ((MK0 (1)).oext (unhide HO_g0) F34)
  replace HEw := hide ((unhide HEw).trans F34)
  go_wp2_with (refine wpList_load_blk rfl 74 _ rfl (w.heap.size) rfl _ _ _ _ (unhide HB_p) Tryz.underlying74 rfl infoSessionlaws ?_)
  refine ((unhide HTo0) _ E).mono ?_
  rintro e w36 ⟨ut0, St0, rfl, ot0, F37⟩
  have HL_t0 : Hid (∀ g, St0 g → w33.heap.size ≤ g ∧ g < w36.heap.size) := hide (X0.lt ot0)
  have hs38 := hide (F37).size
  replace E := E.trans F37
  replace HB_p := hide ((F37).kept (unhide HB_p))
  replace HO_g0 := hide ((MK0 (1)).oext (unhide HO_g0) F37)
  replace HEw := hide ((unhide HEw).trans F37)
  obtain ⟨t0_0, t0_1, t0_2, t0_3, t0_4, t0_5, t0_6a, t0_6n, t0_6c, t0_7a, t0_7n, t0_7c, t0_8, t0_9, t0_10a, t0_10n, t0_10c, t0_11, t0_12, t0_13, t0_14a, t0_14n, t0_14c, t0_15a, t0_15n, t0_15c, t0_16a, t0_16n, t0_16c, rfl⟩ := (unhide ShX0) _ _ (X0.reads ot0)
  have HO_t0 := hide ot0
  clear ot0
  go_wp2_with fail
  refine ((unhide HI) _ _ E (X0.reads (unhide HO_t0))).mono ?_
  rintro e w39 ⟨uh0, Sh0, rfl, oh0, F40⟩
  have HL_h0 : Hid (∀ g, Sh0 g → w36.heap.size ≤ g ∧ g < w39.heap.size) := hide (K0.lt oh0)
  have hs41 := hide (F40).size
  replace E := E.trans F40
  replace HB_p := hide ((F40).kept (unhide HB_p))
  replace HO_g0 := hide ((MK0 (1)).oext (unhide HO_g0) F40)
  replace HO_t0 := hide (X0.oext (unhide HO_t0) F40)
  replace HEw := hide ((unhide HEw).trans F40)
  obtain ⟨h0_a, h0_n, h0_c, rfl⟩ := (unhide ShK0) _ _ (K0.reads oh0)
  have HO_h0 := hide oh0
  clear oh0
  clear HO_t0
  go_wp2_with fail
  refine ((unhide HEqK0) _ _ _ (K0.reads (unhide HO_h0)) (K0.rext (unhide HR_w0) (unhide HEw))).mono ?_
  rintro e w42 ⟨rfl, F43⟩
  have hs44 := hide (F43).size
  replace E := E.trans F43
  replace HB_p := hide ((F43).kept (unhide HB_p))
  replace HO_g0 := hide ((MK0 (1)).oext (unhide HO_g0) F43)
  replace HO_h0 := hide (K0.oext (unhide HO_h0) F43)
  replace HEw := hide ((unhide HEw).trans F43)
  have hq0 : ¬ (1 + (mK0 : Int) : Int) < 0 := by omega
  go_wp2_with fail
  refine ((unhide HHdK0) _ _ _ ((MK0 (1)).reads (unhide HO_g0)) (by omega) (by omega)).mono ?_
  rintro e w45 ⟨rfl, F46⟩
  have hs47 := hide (F46).size
  replace E := E.trans F46
  replace HB_p := hide ((F46).kept (unhide HB_p))
  replace HO_g0 := hide ((MK0 (1)).oext (unhide HO_g0) F46)
  replace HO_h0 := hide (K0.oext (unhide HO_h0) F46)
  replace HEw := hide ((unhide HEw).trans F46)
  go_wp2
  go_ret
  exact ⟨rfl, E.below⟩
end Go.Proofs.YteabhioifedgeaaGreatDoor
