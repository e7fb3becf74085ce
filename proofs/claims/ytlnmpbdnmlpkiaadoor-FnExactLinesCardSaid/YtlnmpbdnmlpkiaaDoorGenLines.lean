import Derived.Test.YtlnmpbdnmlpkiaaDoorKd
import Derived.Deep.RegionHeld3
namespace Go.Proofs.YtlnmpbdnmlpkiaaDoor
open Go.RowKit

set_option maxRecDepth 10000 in
set_option maxHeartbeats 8000000 in
theorem law_Lines (p0_0 : Int) (p0_1 : Int) (p0_2a : Option Addr) (p0_2n : Nat) (p0_2c : Nat) (p0_3 : Int) (p0_4 : Int) (p0_5 : Bool) (p0_6a : Option Addr) (p0_6n : Nat) (p0_6c : Nat) (p0_7a : Option Addr) (p0_7n : Nat) (p0_7c : Nat) (w : World)
    (X0 : Kd) (MX0 : Int → Kd) (mX0 : Nat)
    (K0 : Kd) (MK0 : Int → Kd) (mK0 : Nat)
    (Fit : Prop)
    (HZ : Hid (∀ W, Ext w W → Calls Tryd.prog 9 #[.agg #[.int .i64 p0_0, .int .i64 p0_1, .slice p0_2a p0_2n p0_2c, .int .i64 p0_3, .int .i64 p0_4, .bool p0_5, .slice p0_6a p0_6n p0_6c, .slice p0_7a p0_7n p0_7c], .int .i64 1048576] W fun e w' => ∃ r : Int, e = .returned (.int .i64 r) ∧ (0 ≤ r → Fit) ∧ Ext W w'))
    (HTo0' : Hid (Fit → ∀ W, Ext w W → Calls Tryd.prog 11 #[.agg #[.int .i64 p0_0, .int .i64 p0_1, .slice p0_2a p0_2n p0_2c, .int .i64 p0_3, .int .i64 p0_4, .bool p0_5, .slice p0_6a p0_6n p0_6c, .slice p0_7a p0_7n p0_7c]] W fun e w' => ∃ u S, e = .returned u ∧ X0.O w' W.heap.size S u ∧ Ext W w'))
    (ShX0 : Hid (∀ W u, X0.R W u → ∃ (x0 : Int) (x1 : Int) (x2a : Option Addr) (x2n : Nat) (x2c : Nat) (x3 : Int) (x4 : Int) (x5 : Bool) (x6a : Option Addr) (x6n : Nat) (x6c : Nat) (x7a : Option Addr) (x7n : Nat) (x7c : Nat), u = .agg #[.int .i64 x0, .int .i64 x1, .slice x2a x2n x2c, .int .i64 x3, .int .i64 x4, .bool x5, .slice x6a x6n x6c, .slice x7a x7n x7c]))
    (HEqX0' : Hid (Fit → EqOk 14 X0)) (HMkX0' : Hid (Fit → MarkOk 15 X0 MX0 mX0 ∧ mX0 ≤ 1073741824))
    (HS' : Hid (Fit → ∀ (W : World) (u0 : Value), Ext w W → X0.R W u0 → Calls Tryd.prog 10 #[u0] W fun e w' => ∃ v0 S0, e = .returned (v0) ∧ K0.O w' W.heap.size S0 v0 ∧ Ext W w'))
    (HI' : Hid (Fit → ∀ (W : World) (u0 : Value), Ext w W → X0.R W u0 → Calls Tryd.prog 12 #[u0] W fun e w' => ∃ v0 S0, e = .returned (v0) ∧ K0.O w' W.heap.size S0 v0 ∧ Ext W w'))
    (ShK0 : Hid (∀ W u, K0.R W u → ∃ (xa : Option Addr) (xn : Nat) (xc : Nat), u = .slice xa xn xc))
    (HEqK0' : Hid (Fit → EqOk 13 K0)) (HMkK0' : Hid (Fit → MarkOk 16 K0 MK0 mK0 ∧ mK0 ≤ 1073741824)) (HHdK0' : Hid (Fit → HeldOk 17 MK0 mK0))
    : Calls Tryd.prog 3 #[.agg #[.int .i64 p0_0, .int .i64 p0_1, .slice p0_2a p0_2n p0_2c, .int .i64 p0_3, .int .i64 p0_4, .bool p0_5, .slice p0_6a p0_6n p0_6c, .slice p0_7a p0_7n p0_7c]] w fun e w' => e = .returned (.bool true) ∧ Below w.heap.size w w' := by
  go_enter Tryd.func3, Tryd.ntmps3
  go_wp2_with fail
  obtain ⟨W0, hW0⟩ : ∃ W0, W0 = w.alloc (.cells #[.int .i64 p0_0, .int .i64 p0_1, .slice p0_2a p0_2n p0_2c, .int .i64 p0_3, .int .i64 p0_4, .bool p0_5, .slice p0_6a p0_6n p0_6c, .slice p0_7a p0_7n p0_7c] 26) := ⟨_, rfl⟩
  rw [← hW0]
  have E : Ext w W0 := by rw [hW0]; exact (Ext.refl w).alloc _
  have HB_p : Hid (W0.heap[w.heap.size]? = some (.cells #[.int .i64 p0_0, .int .i64 p0_1, .slice p0_2a p0_2n p0_2c, .int .i64 p0_3, .int .i64 p0_4, .bool p0_5, .slice p0_6a p0_6n p0_6c, .slice p0_7a p0_7n p0_7c] 26 (0, 0))) := hide (by rw [hW0]; exact new_block w _)
  have hzW0 := hide (lt_of_block (unhide HB_p))
  clear hW0
  refine ((unhide HZ) _ E).mono ?_
  rintro e w1 ⟨r, rfl, hr, F1⟩
  have hs2 := hide (F1).size
  replace E := E.trans F1
  replace HB_p := hide ((F1).kept (unhide HB_p))
  by_cases hr0 : r < 0
  · go_wp2
    go_ret
    exact ⟨rfl, E.below⟩
  have hfit : Fit := hr (by omega)
  clear hr HZ
  have HTo0 := hide ((unhide HTo0') hfit)
  have HEqX0 := hide ((unhide HEqX0') hfit)
  have HMkX0 := hide ((unhide HMkX0') hfit).1
  have hmX0 := ((unhide HMkX0') hfit).2
  clear HTo0' HEqX0' HMkX0'
  have HEqK0 := hide ((unhide HEqK0') hfit)
  have HMkK0 := hide ((unhide HMkK0') hfit).1
  have hmK0 := ((unhide HMkK0') hfit).2
  have HHdK0 := hide ((unhide HHdK0') hfit)
  clear HEqK0' HMkK0' HHdK0'
  have HS := hide ((unhide HS') hfit)
  have HI := hide ((unhide HI') hfit)
  clear HS' HI' hfit
  have c_p_0 : w1.cell? ⟨w.heap.size, 0, none⟩ = some (.int .i64 p0_0) := cells_of (unhide HB_p) 0 _ rfl
  have c_p_1 : w1.cell? ⟨w.heap.size, 1, none⟩ = some (.int .i64 p0_1) := cells_of (unhide HB_p) 1 _ rfl
  have c_p_2 : w1.cell? ⟨w.heap.size, 2, none⟩ = some (.slice p0_2a p0_2n p0_2c) := cells_of (unhide HB_p) 2 _ rfl
  have c_p_3 : w1.cell? ⟨w.heap.size, 3, none⟩ = some (.int .i64 p0_3) := cells_of (unhide HB_p) 3 _ rfl
  have c_p_4 : w1.cell? ⟨w.heap.size, 4, none⟩ = some (.int .i64 p0_4) := cells_of (unhide HB_p) 4 _ rfl
  have c_p_5 : w1.cell? ⟨w.heap.size, 5, none⟩ = some (.bool p0_5) := cells_of (unhide HB_p) 5 _ rfl
  have c_p_6 : w1.cell? ⟨w.heap.size, 6, none⟩ = some (.slice p0_6a p0_6n p0_6c) := cells_of (unhide HB_p) 6 _ rfl
  have c_p_7 : w1.cell? ⟨w.heap.size, 7, none⟩ = some (.slice p0_7a p0_7n p0_7c) := cells_of (unhide HB_p) 7 _ rfl
  go_wp2_with fail
  clear c_p_0 c_p_1 c_p_2 c_p_3 c_p_4 c_p_5 c_p_6 c_p_7
  refine ((unhide HTo0) _ E).mono ?_
  rintro e w3 ⟨ut0, St0, rfl, ot0, F4⟩
  have HL_t0 : Hid (∀ g, St0 g → w1.heap.size ≤ g ∧ g < w3.heap.size) := hide (X0.lt ot0)
  have hs5 := hide (F4).size
  replace E := E.trans F4
  replace HB_p := hide ((F4).kept (unhide HB_p))
  obtain ⟨t0_0, t0_1, t0_2a, t0_2n, t0_2c, t0_3, t0_4, t0_5, t0_6a, t0_6n, t0_6c, t0_7a, t0_7n, t0_7c, rfl⟩ := (unhide ShX0) _ _ (X0.reads ot0)
  have HO_t0 := hide ot0
  clear ot0
  go_wp2_with fail
  refine ((unhide HS) _ _ E (X0.reads (unhide HO_t0))).mono ?_
  rintro e w6 ⟨uw0, Sw0, rfl, ow0, F7⟩
  have HL_w0 : Hid (∀ g, Sw0 g → w3.heap.size ≤ g ∧ g < w6.heap.size) := hide (K0.lt ow0)
  have hs8 := hide (F7).size
  replace E := E.trans F7
  replace HB_p := hide ((F7).kept (unhide HB_p))
  replace HO_t0 := hide (X0.oext (unhide HO_t0) F7)
  obtain ⟨w0_a, w0_n, w0_c, rfl⟩ := (unhide ShK0) _ _ (K0.reads ow0)
  have HO_w0 := hide ow0
  clear ow0
  clear HO_t0
  have c_p_0 : w6.cell? ⟨w.heap.size, 0, none⟩ = some (.int .i64 p0_0) := cells_of (unhide HB_p) 0 _ rfl
  have c_p_1 : w6.cell? ⟨w.heap.size, 1, none⟩ = some (.int .i64 p0_1) := cells_of (unhide HB_p) 1 _ rfl
  have c_p_2 : w6.cell? ⟨w.heap.size, 2, none⟩ = some (.slice p0_2a p0_2n p0_2c) := cells_of (unhide HB_p) 2 _ rfl
  have c_p_3 : w6.cell? ⟨w.heap.size, 3, none⟩ = some (.int .i64 p0_3) := cells_of (unhide HB_p) 3 _ rfl
  have c_p_4 : w6.cell? ⟨w.heap.size, 4, none⟩ = some (.int .i64 p0_4) := cells_of (unhide HB_p) 4 _ rfl
  have c_p_5 : w6.cell? ⟨w.heap.size, 5, none⟩ = some (.bool p0_5) := cells_of (unhide HB_p) 5 _ rfl
  have c_p_6 : w6.cell? ⟨w.heap.size, 6, none⟩ = some (.slice p0_6a p0_6n p0_6c) := cells_of (unhide HB_p) 6 _ rfl
  have c_p_7 : w6.cell? ⟨w.heap.size, 7, none⟩ = some (.slice p0_7a p0_7n p0_7c) := cells_of (unhide HB_p) 7 _ rfl
  go_wp2_with fail
  clear c_p_0 c_p_1 c_p_2 c_p_3 c_p_4 c_p_5 c_p_6 c_p_7
  refine ((unhide HTo0) _ E).mono ?_
  rintro e w9 ⟨ux0, Sx0, rfl, ox0, F10⟩
  have HL_x0 : Hid (∀ g, Sx0 g → w6.heap.size ≤ g ∧ g < w9.heap.size) := hide (X0.lt ox0)
  have hs11 := hide (F10).size
  replace E := E.trans F10
  replace HB_p := hide ((F10).kept (unhide HB_p))
  replace HO_w0 := hide (K0.oext (unhide HO_w0) F10)
  obtain ⟨x0_0, x0_1, x0_2a, x0_2n, x0_2c, x0_3, x0_4, x0_5, x0_6a, x0_6n, x0_6c, x0_7a, x0_7n, x0_7c, rfl⟩ := (unhide ShX0) _ _ (X0.reads ox0)
  have HO_x0 := hide ox0
  clear ox0
  go_wp2_with fail
  obtain ⟨V12, hV12⟩ : ∃ V12, V12 = w9.alloc (.cells #[.int .i64 x0_0, .int .i64 x0_1, .slice x0_2a x0_2n x0_2c, .int .i64 x0_3, .int .i64 x0_4, .bool x0_5, .slice x0_6a x0_6n x0_6c, .slice x0_7a x0_7n x0_7c] 31) := ⟨_, rfl⟩
  rw [← hV12]
  have FV12 : Ext w9 V12 := by rw [hV12]; exact (Ext.refl w9).alloc _
  have HB_x0 : Hid (V12.heap[w9.heap.size]? = some (.cells #[.int .i64 x0_0, .int .i64 x0_1, .slice x0_2a x0_2n x0_2c, .int .i64 x0_3, .int .i64 x0_4, .bool x0_5, .slice x0_6a x0_6n x0_6c, .slice x0_7a x0_7n x0_7c] 31 (0, 0))) := hide (by rw [hV12]; exact new_block w9 _)
  have hzV12 := hide (lt_of_block (unhide HB_x0))
  clear hV12
  have hs13 := hide (FV12).size
  replace E := E.trans FV12
  replace HB_p := hide ((FV12).kept (unhide HB_p))
  replace HO_w0 := hide (K0.oext (unhide HO_w0) FV12)
  replace HO_x0 := hide (X0.oext (unhide HO_x0) FV12)
  refine ((unhide HI) _ _ E (X0.reads (unhide HO_x0))).mono ?_
  rintro e w14 ⟨ug0, Sg0, rfl, og0, F15⟩
  have HL_g0 : Hid (∀ g, Sg0 g → V12.heap.size ≤ g ∧ g < w14.heap.size) := hide (K0.lt og0)
  have hs16 := hide (F15).size
  replace E := E.trans F15
  replace HB_p := hide ((F15).kept (unhide HB_p))
  replace HB_x0 := hide ((F15).kept (unhide HB_x0))
  replace HO_w0 := hide (K0.oext (unhide HO_w0) F15)
  replace HO_x0 := hide (X0.oext (unhide HO_x0) F15)
  obtain ⟨g0_a, g0_n, g0_c, rfl⟩ := (unhide ShK0) _ _ (K0.reads og0)
  have HO_g0 := hide og0
  clear og0
  go_wp2_with fail
  refine ((unhide HEqK0) _ _ _ (K0.reads (unhide HO_g0)) (K0.reads (unhide HO_w0))).mono ?_
  rintro e w17 ⟨rfl, F18⟩
  have hs19 := hide (F18).size
  replace E := E.trans F18
  replace HB_p := hide ((F18).kept (unhide HB_p))
  replace HB_x0 := hide ((F18).kept (unhide HB_x0))
  replace HO_w0 := hide (K0.oext (unhide HO_w0) F18)
  replace HO_x0 := hide (X0.oext (unhide HO_x0) F18)
  replace HO_g0 := hide (K0.oext (unhide HO_g0) F18)
  have c_x0_0 : w17.cell? ⟨w9.heap.size, 0, none⟩ = some (.int .i64 x0_0) := cells_of (unhide HB_x0) 0 _ rfl
  have c_x0_1 : w17.cell? ⟨w9.heap.size, 1, none⟩ = some (.int .i64 x0_1) := cells_of (unhide HB_x0) 1 _ rfl
  have c_x0_2 : w17.cell? ⟨w9.heap.size, 2, none⟩ = some (.slice x0_2a x0_2n x0_2c) := cells_of (unhide HB_x0) 2 _ rfl
  have c_x0_3 : w17.cell? ⟨w9.heap.size, 3, none⟩ = some (.int .i64 x0_3) := cells_of (unhide HB_x0) 3 _ rfl
  have c_x0_4 : w17.cell? ⟨w9.heap.size, 4, none⟩ = some (.int .i64 x0_4) := cells_of (unhide HB_x0) 4 _ rfl
  have c_x0_5 : w17.cell? ⟨w9.heap.size, 5, none⟩ = some (.bool x0_5) := cells_of (unhide HB_x0) 5 _ rfl
  have c_x0_6 : w17.cell? ⟨w9.heap.size, 6, none⟩ = some (.slice x0_6a x0_6n x0_6c) := cells_of (unhide HB_x0) 6 _ rfl
  have c_x0_7 : w17.cell? ⟨w9.heap.size, 7, none⟩ = some (.slice x0_7a x0_7n x0_7c) := cells_of (unhide HB_x0) 7 _ rfl
  have c_p_0 : w17.cell? ⟨w.heap.size, 0, none⟩ = some (.int .i64 p0_0) := cells_of (unhide HB_p) 0 _ rfl
  have c_p_1 : w17.cell? ⟨w.heap.size, 1, none⟩ = some (.int .i64 p0_1) := cells_of (unhide HB_p) 1 _ rfl
  have c_p_2 : w17.cell? ⟨w.heap.size, 2, none⟩ = some (.slice p0_2a p0_2n p0_2c) := cells_of (unhide HB_p) 2 _ rfl
  have c_p_3 : w17.cell? ⟨w.heap.size, 3, none⟩ = some (.int .i64 p0_3) := cells_of (unhide HB_p) 3 _ rfl
  have c_p_4 : w17.cell? ⟨w.heap.size, 4, none⟩ = some (.int .i64 p0_4) := cells_of (unhide HB_p) 4 _ rfl
  have c_p_5 : w17.cell? ⟨w.heap.size, 5, none⟩ = some (.bool p0_5) := cells_of (unhide HB_p) 5 _ rfl
  have c_p_6 : w17.cell? ⟨w.heap.size, 6, none⟩ = some (.slice p0_6a p0_6n p0_6c) := cells_of (unhide HB_p) 6 _ rfl
  have c_p_7 : w17.cell? ⟨w.heap.size, 7, none⟩ = some (.slice p0_7a p0_7n p0_7c) := cells_of (unhide HB_p) 7 _ rfl
  go_wp2
  have HTt := hide (fun U (hU : Ext w17 U) => (unhide HTo0) U (E.trans hU))
  go_region_held3 (fun W => W.cell? ⟨w9.heap.size, 0, none⟩ = some (.int .i64 x0_0) ∧ W.cell? ⟨w9.heap.size, 1, none⟩ = some (.int .i64 x0_1) ∧ W.cell? ⟨w9.heap.size, 2, none⟩ = some (.slice x0_2a x0_2n x0_2c) ∧ W.cell? ⟨w9.heap.size, 3, none⟩ = some (.int .i64 x0_3) ∧ W.cell? ⟨w9.heap.size, 4, none⟩ = some (.int .i64 x0_4) ∧ W.cell? ⟨w9.heap.size, 5, none⟩ = some (.bool x0_5) ∧ W.cell? ⟨w9.heap.size, 6, none⟩ = some (.slice x0_6a x0_6n x0_6c) ∧ W.cell? ⟨w9.heap.size, 7, none⟩ = some (.slice x0_7a x0_7n x0_7c) ∧ W.cell? ⟨w.heap.size, 0, none⟩ = some (.int .i64 p0_0) ∧ W.cell? ⟨w.heap.size, 1, none⟩ = some (.int .i64 p0_1) ∧ W.cell? ⟨w.heap.size, 2, none⟩ = some (.slice p0_2a p0_2n p0_2c) ∧ W.cell? ⟨w.heap.size, 3, none⟩ = some (.int .i64 p0_3) ∧ W.cell? ⟨w.heap.size, 4, none⟩ = some (.int .i64 p0_4) ∧ W.cell? ⟨w.heap.size, 5, none⟩ = some (.bool p0_5) ∧ W.cell? ⟨w.heap.size, 6, none⟩ = some (.slice p0_6a p0_6n p0_6c) ∧ W.cell? ⟨w.heap.size, 7, none⟩ = some (.slice p0_7a p0_7n p0_7c)) (first | exact ⟨c_x0_0, c_x0_1, c_x0_2, c_x0_3, c_x0_4, c_x0_5, c_x0_6, c_x0_7, c_p_0, c_p_1, c_p_2, c_p_3, c_p_4, c_p_5, c_p_6, c_p_7⟩ | exact ⟨he'.cell c_x0_0, he'.cell c_x0_1, he'.cell c_x0_2, he'.cell c_x0_3, he'.cell c_x0_4, he'.cell c_x0_5, he'.cell c_x0_6, he'.cell c_x0_7, he'.cell c_p_0, he'.cell c_p_1, he'.cell c_p_2, he'.cell c_p_3, he'.cell c_p_4, he'.cell c_p_5, he'.cell c_p_6, he'.cell c_p_7⟩)
    (first
      | (go_at_call 11; refine ((unhide HTt) _ (Ext.refl w17).drew).mono ?_; rintro e w20 ⟨uT, ST, rfl, oT, FT⟩; have he' := (Ext.refl w17).drew.trans FT; obtain ⟨yx0, yx1, yx2a, yx2n, yx2c, yx3, yx4, yx5, yx6a, yx6n, yx6c, yx7a, yx7n, yx7c, rfl⟩ := (unhide ShX0) _ _ (X0.reads oT); have RT := hide (X0.reads oT); clear oT FT)
      | (go_at_call 14; refine ((unhide HEqX0) _ _ _ (X0.rext (X0.reads (unhide HO_x0)) he') (unhide RT)).mono ?_; rintro e w21 ⟨rfl, FE⟩; have he' := he'.trans FE; clear FE))
  clear HTt RT c_x0_0 c_x0_1 c_x0_2 c_x0_3 c_x0_4 c_x0_5 c_x0_6 c_x0_7 c_p_0 c_p_1 c_p_2 c_p_3 c_p_4 c_p_5 c_p_6 c_p_7
  have F22 := he'
  clear he'
  have hs23 := hide (F22).size
  replace E := E.trans F22
  replace HB_p := hide ((F22).kept (unhide HB_p))
  replace HB_x0 := hide ((F22).kept (unhide HB_x0))
  replace HO_w0 := hide (K0.oext (unhide HO_w0) F22)
  replace HO_x0 := hide (X0.oext (unhide HO_x0) F22)
  replace HO_g0 := hide (K0.oext (unhide HO_g0) F22)
  have c_x0_0 : w21.cell? ⟨w9.heap.size, 0, none⟩ = some (.int .i64 x0_0) := cells_of (unhide HB_x0) 0 _ rfl
  have c_x0_1 : w21.cell? ⟨w9.heap.size, 1, none⟩ = some (.int .i64 x0_1) := cells_of (unhide HB_x0) 1 _ rfl
  have c_x0_2 : w21.cell? ⟨w9.heap.size, 2, none⟩ = some (.slice x0_2a x0_2n x0_2c) := cells_of (unhide HB_x0) 2 _ rfl
  have c_x0_3 : w21.cell? ⟨w9.heap.size, 3, none⟩ = some (.int .i64 x0_3) := cells_of (unhide HB_x0) 3 _ rfl
  have c_x0_4 : w21.cell? ⟨w9.heap.size, 4, none⟩ = some (.int .i64 x0_4) := cells_of (unhide HB_x0) 4 _ rfl
  have c_x0_5 : w21.cell? ⟨w9.heap.size, 5, none⟩ = some (.bool x0_5) := cells_of (unhide HB_x0) 5 _ rfl
  have c_x0_6 : w21.cell? ⟨w9.heap.size, 6, none⟩ = some (.slice x0_6a x0_6n x0_6c) := cells_of (unhide HB_x0) 6 _ rfl
  have c_x0_7 : w21.cell? ⟨w9.heap.size, 7, none⟩ = some (.slice x0_7a x0_7n x0_7c) := cells_of (unhide HB_x0) 7 _ rfl
  go_wp2_with fail
  clear c_x0_0 c_x0_1 c_x0_2 c_x0_3 c_x0_4 c_x0_5 c_x0_6 c_x0_7
  refine ((unhide HMkX0) _ _ _ _ _ (unhide HO_x0) (by omega) (by omega)).mono ?_
  rintro e w24 ⟨rfl, om, F25⟩
  replace E := F25.ext E (fun _ h9 => by have b9 := (unhide HL_x0) _ h9; have z0 := unhide hzW0; have z1 := unhide hs2; have z2 := unhide hs5; have z3 := unhide hs8; have z4 := unhide hs11; have z5 := unhide hzV12; have z6 := unhide hs13; have z7 := unhide hs16; have z8 := unhide hs19; have z9 := unhide hs23; omega)
  replace HB_p := hide (F25.kept (unhide HB_p) (fun h9 => by have b9 := (unhide HL_x0) _ h9; have z0 := unhide hzW0; have z1 := unhide hs2; have z2 := unhide hs5; have z3 := unhide hs8; have z4 := unhide hs11; have z5 := unhide hzV12; have z6 := unhide hs13; have z7 := unhide hs16; have z8 := unhide hs19; have z9 := unhide hs23; omega))
  replace HB_x0 := hide (F25.kept (unhide HB_x0) (fun h9 => by have b9 := (unhide HL_x0) _ h9; have z0 := unhide hzW0; have z1 := unhide hs2; have z2 := unhide hs5; have z3 := unhide hs8; have z4 := unhide hs11; have z5 := unhide hzV12; have z6 := unhide hs13; have z7 := unhide hs16; have z8 := unhide hs19; have z9 := unhide hs23; omega))
  replace HO_w0 := hide (K0.ofr (unhide HO_w0) F25 (fun q9 h8 h9 => by have b8 := (unhide HL_w0) q9 h8; have b9 := (unhide HL_x0) q9 h9; have z0 := unhide hzW0; have z1 := unhide hs2; have z2 := unhide hs5; have z3 := unhide hs8; have z4 := unhide hs11; have z5 := unhide hzV12; have z6 := unhide hs13; have z7 := unhide hs16; have z8 := unhide hs19; have z9 := unhide hs23; omega))
  replace HO_g0 := hide (K0.ofr (unhide HO_g0) F25 (fun q9 h8 h9 => by have b8 := (unhide HL_g0) q9 h8; have b9 := (unhide HL_x0) q9 h9; have z0 := unhide hzW0; have z1 := unhide hs2; have z2 := unhide hs5; have z3 := unhide hs8; have z4 := unhide hs11; have z5 := unhide hzV12; have z6 := unhide hs13; have z7 := unhide hs16; have z8 := unhide hs19; have z9 := unhide hs23; omega))
  have hs26 := hide F25.size
  replace HO_x0 := hide om
  clear om
  have hkk : ¬ (1 + (mX0 : Int) : Int) < 0 := by omega
  clear HO_x0
  clear HB_x0
  go_wp2_with fail
  refine ((unhide HEqK0) _ _ _ (K0.reads (unhide HO_g0)) (K0.reads (unhide HO_w0))).mono ?_
  rintro e w27 ⟨rfl, F28⟩
  have hs29 := hide (F28).size
  replace E := E.trans F28
  replace HB_p := hide ((F28).kept (unhide HB_p))
  replace HO_w0 := hide (K0.oext (unhide HO_w0) F28)
  replace HO_g0 := hide (K0.oext (unhide HO_g0) F28)
  go_wp2_with fail
  refine ((unhide HMkK0) _ _ _ _ _ (unhide HO_g0) (by omega) (by omega)).mono ?_
  rintro e w30 ⟨rfl, om, F31⟩
  replace E := F31.ext E (fun _ h9 => by have b9 := (unhide HL_g0) _ h9; have z0 := unhide hzW0; have z1 := unhide hs2; have z2 := unhide hs5; have z3 := unhide hs8; have z4 := unhide hs11; have z5 := unhide hzV12; have z6 := unhide hs13; have z7 := unhide hs16; have z8 := unhide hs19; have z9 := unhide hs23; have z10 := unhide hs26; have z11 := unhide hs29; omega)
  replace HB_p := hide (F31.kept (unhide HB_p) (fun h9 => by have b9 := (unhide HL_g0) _ h9; have z0 := unhide hzW0; have z1 := unhide hs2; have z2 := unhide hs5; have z3 := unhide hs8; have z4 := unhide hs11; have z5 := unhide hzV12; have z6 := unhide hs13; have z7 := unhide hs16; have z8 := unhide hs19; have z9 := unhide hs23; have z10 := unhide hs26; have z11 := unhide hs29; omega))
  replace HO_w0 := hide (K0.ofr (unhide HO_w0) F31 (fun q9 h8 h9 => by have b8 := (unhide HL_w0) q9 h8; have b9 := (unhide HL_g0) q9 h9; have z0 := unhide hzW0; have z1 := unhide hs2; have z2 := unhide hs5; have z3 := unhide hs8; have z4 := unhide hs11; have z5 := unhide hzV12; have z6 := unhide hs13; have z7 := unhide hs16; have z8 := unhide hs19; have z9 := unhide hs23; have z10 := unhide hs26; have z11 := unhide hs29; omega))
  have hs32 := hide F31.size
  replace HO_g0 := hide om
  clear om
  have hq0 : ¬ (1 + (mK0 : Int) : Int) < 0 := by omega
  go_wp2_with fail
  refine ((unhide HHdK0) _ _ _ ((MK0 (1)).reads (unhide HO_g0)) (by omega) (by omega)).mono ?_
  rintro e w33 ⟨rfl, F34⟩
  have hs35 := hide (F34).size
  replace E := E.trans F34
  replace HB_p := hide ((F34).kept (unhide HB_p))
  replace HO_w0 := hide (K0.oext (unhide HO_w0) F34)
  replace HO_g0 := hide ((MK0 (1)).oext (unhide HO_g0) F34)
  have c_p_0 : w33.cell? ⟨w.heap.size, 0, none⟩ = some (.int .i64 p0_0) := cells_of (unhide HB_p) 0 _ rfl
  have c_p_1 : w33.cell? ⟨w.heap.size, 1, none⟩ = some (.int .i64 p0_1) := cells_of (unhide HB_p) 1 _ rfl
  have c_p_2 : w33.cell? ⟨w.heap.size, 2, none⟩ = some (.slice p0_2a p0_2n p0_2c) := cells_of (unhide HB_p) 2 _ rfl
  have c_p_3 : w33.cell? ⟨w.heap.size, 3, none⟩ = some (.int .i64 p0_3) := cells_of (unhide HB_p) 3 _ rfl
  have c_p_4 : w33.cell? ⟨w.heap.size, 4, none⟩ = some (.int .i64 p0_4) := cells_of (unhide HB_p) 4 _ rfl
  have c_p_5 : w33.cell? ⟨w.heap.size, 5, none⟩ = some (.bool p0_5) := cells_of (unhide HB_p) 5 _ rfl
  have c_p_6 : w33.cell? ⟨w.heap.size, 6, none⟩ = some (.slice p0_6a p0_6n p0_6c) := cells_of (unhide HB_p) 6 _ rfl
  have c_p_7 : w33.cell? ⟨w.heap.size, 7, none⟩ = some (.slice p0_7a p0_7n p0_7c) := cells_of (unhide HB_p) 7 _ rfl
  go_wp2_with fail
  clear c_p_0 c_p_1 c_p_2 c_p_3 c_p_4 c_p_5 c_p_6 c_p_7
  refine ((unhide HTo0) _ E).mono ?_
  rintro e w36 ⟨ut0, St0, rfl, ot0, F37⟩
  have HL_t0 : Hid (∀ g, St0 g → w33.heap.size ≤ g ∧ g < w36.heap.size) := hide (X0.lt ot0)
  have hs38 := hide (F37).size
  replace E := E.trans F37
  replace HB_p := hide ((F37).kept (unhide HB_p))
  replace HO_w0 := hide (K0.oext (unhide HO_w0) F37)
  replace HO_g0 := hide ((MK0 (1)).oext (unhide HO_g0) F37)
  obtain ⟨t0_0, t0_1, t0_2a, t0_2n, t0_2c, t0_3, t0_4, t0_5, t0_6a, t0_6n, t0_6c, t0_7a, t0_7n, t0_7c, rfl⟩ := (unhide ShX0) _ _ (X0.reads ot0)
  have HO_t0 := hide ot0
  clear ot0
  go_wp2_with fail
  refine ((unhide HI) _ _ E (X0.reads (unhide HO_t0))).mono ?_
  rintro e w39 ⟨uh0, Sh0, rfl, oh0, F40⟩
  have HL_h0 : Hid (∀ g, Sh0 g → w36.heap.size ≤ g ∧ g < w39.heap.size) := hide (K0.lt oh0)
  have hs41 := hide (F40).size
  replace E := E.trans F40
  replace HB_p := hide ((F40).kept (unhide HB_p))
  replace HO_w0 := hide (K0.oext (unhide HO_w0) F40)
  replace HO_g0 := hide ((MK0 (1)).oext (unhide HO_g0) F40)
  replace HO_t0 := hide (X0.oext (unhide HO_t0) F40)
  obtain ⟨h0_a, h0_n, h0_c, rfl⟩ := (unhide ShK0) _ _ (K0.reads oh0)
  have HO_h0 := hide oh0
  clear oh0
  clear HO_t0
  go_wp2_with fail
  refine ((unhide HEqK0) _ _ _ (K0.reads (unhide HO_h0)) (K0.reads (unhide HO_w0))).mono ?_
  rintro e w42 ⟨rfl, F43⟩
  have hs44 := hide (F43).size
  replace E := E.trans F43
  replace HB_p := hide ((F43).kept (unhide HB_p))
  replace HO_w0 := hide (K0.oext (unhide HO_w0) F43)
  replace HO_g0 := hide ((MK0 (1)).oext (unhide HO_g0) F43)
  replace HO_h0 := hide (K0.oext (unhide HO_h0) F43)
  have hq0 : ¬ (1 + (mK0 : Int) : Int) < 0 := by omega
  go_wp2_with fail
  refine ((unhide HHdK0) _ _ _ ((MK0 (1)).reads (unhide HO_g0)) (by omega) (by omega)).mono ?_
  rintro e w45 ⟨rfl, F46⟩
  have hs47 := hide (F46).size
  replace E := E.trans F46
  replace HB_p := hide ((F46).kept (unhide HB_p))
  replace HO_w0 := hide (K0.oext (unhide HO_w0) F46)
  replace HO_g0 := hide ((MK0 (1)).oext (unhide HO_g0) F46)
  replace HO_h0 := hide (K0.oext (unhide HO_h0) F46)
  go_wp2
  go_ret
  exact ⟨rfl, E.below⟩
end Go.Proofs.YtlnmpbdnmlpkiaaDoor
