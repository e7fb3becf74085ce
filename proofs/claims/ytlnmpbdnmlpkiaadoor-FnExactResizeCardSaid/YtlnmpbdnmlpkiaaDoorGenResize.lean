import Derived.Test.YtlnmpbdnmlpkiaaDoorKd
import Derived.Deep.RegionHeld3
namespace Go.Proofs.YtlnmpbdnmlpkiaaDoor
open Go.RowKit

set_option maxRecDepth 10000 in
set_option maxHeartbeats 8000000 in
theorem law_Resize (p0_0 : Int) (p0_1 : Int) (p0_2a : Option Addr) (p0_2n : Nat) (p0_2c : Nat) (p0_3 : Int) (p0_4 : Int) (p0_5 : Bool) (p0_6a : Option Addr) (p0_6n : Nat) (p0_6c : Nat) (p0_7a : Option Addr) (p0_7n : Nat) (p0_7c : Nat) (s1 : Int) (s2 : Int) (q1 : Bool) (w : World)
    (X0 : Kd) (MX0 : Int → Kd) (mX0 : Nat)
    (K0 : Kd) (MK0 : Int → Kd) (mK0 : Nat)
    (Fit : Prop)
    (HZ : Hid (∀ W, Ext w W → Calls Tryd.prog 9 #[.agg #[.int .i64 p0_0, .int .i64 p0_1, .slice p0_2a p0_2n p0_2c, .int .i64 p0_3, .int .i64 p0_4, .bool p0_5, .slice p0_6a p0_6n p0_6c, .slice p0_7a p0_7n p0_7c], .int .i64 1048576] W fun e w' => ∃ r : Int, e = .returned (.int .i64 r) ∧ (0 ≤ r → Fit) ∧ Ext W w'))
    (HTo0' : Hid (Fit → ∀ W, Ext w W → Calls Tryd.prog 11 #[.agg #[.int .i64 p0_0, .int .i64 p0_1, .slice p0_2a p0_2n p0_2c, .int .i64 p0_3, .int .i64 p0_4, .bool p0_5, .slice p0_6a p0_6n p0_6c, .slice p0_7a p0_7n p0_7c]] W fun e w' => ∃ u S, e = .returned u ∧ X0.O w' W.heap.size S u ∧ Ext W w'))
    (ShX0 : Hid (∀ W u, X0.R W u → ∃ (x0 : Int) (x1 : Int) (x2a : Option Addr) (x2n : Nat) (x2c : Nat) (x3 : Int) (x4 : Int) (x5 : Bool) (x6a : Option Addr) (x6n : Nat) (x6c : Nat) (x7a : Option Addr) (x7n : Nat) (x7c : Nat), u = .agg #[.int .i64 x0, .int .i64 x1, .slice x2a x2n x2c, .int .i64 x3, .int .i64 x4, .bool x5, .slice x6a x6n x6c, .slice x7a x7n x7c]))
    (HEqX0' : Hid (Fit → EqOk 14 X0)) (HMkX0' : Hid (Fit → MarkOk 15 X0 MX0 mX0 ∧ mX0 ≤ 1073741824))
    (HS' : Hid (Fit → ∀ (W : World) (u0 : Value), Ext w W → X0.R W u0 → Calls Tryd.prog 37 #[u0, .int .i64 s1, .int .i64 s2] W fun e w' => ∃ v0, e = .returned (.tuple #[v0, .bool q1]) ∧ K0.R w' v0 ∧ Ext W w'))
    (HI' : Hid (Fit → ∀ (W : World) (u0 : Value), Ext w W → X0.R W u0 → Calls Tryd.prog 38 #[u0, .int .i64 s1, .int .i64 s2] W fun e w' => ∃ v0 S0, e = .returned (.tuple #[v0, .bool q1]) ∧ K0.O w' W.heap.size S0 v0 ∧ Ext W w'))
    (ShK0 : Hid (∀ W u, K0.R W u → ∃ (x0 : Int) (x1 : Int) (x2a : Option Addr) (x2n : Nat) (x2c : Nat) (x3 : Int) (x4 : Int) (x5 : Bool) (x6a : Option Addr) (x6n : Nat) (x6c : Nat) (x7a : Option Addr) (x7n : Nat) (x7c : Nat), u = .agg #[.int .i64 x0, .int .i64 x1, .slice x2a x2n x2c, .int .i64 x3, .int .i64 x4, .bool x5, .slice x6a x6n x6c, .slice x7a x7n x7c]))
    (HEqK0' : Hid (Fit → EqOk 14 K0)) (HMkK0' : Hid (Fit → MarkOk 15 K0 MK0 mK0 ∧ mK0 ≤ 1073741824)) (HHdK0' : Hid (Fit → HeldOk 39 MK0 mK0))
    : Calls Tryd.prog 7 #[.agg #[.int .i64 p0_0, .int .i64 p0_1, .slice p0_2a p0_2n p0_2c, .int .i64 p0_3, .int .i64 p0_4, .bool p0_5, .slice p0_6a p0_6n p0_6c, .slice p0_7a p0_7n p0_7c], .int .i64 s1, .int .i64 s2] w fun e w' => e = .returned (.bool true) ∧ Below w.heap.size w w' := by
  go_enter Tryd.func7, Tryd.ntmps7
  go_wp2_with fail
  obtain ⟨W0, hW0⟩ : ∃ W0, W0 = w.alloc (.cells #[.int .i64 p0_0, .int .i64 p0_1, .slice p0_2a p0_2n p0_2c, .int .i64 p0_3, .int .i64 p0_4, .bool p0_5, .slice p0_6a p0_6n p0_6c, .slice p0_7a p0_7n p0_7c] 26) := ⟨_, rfl⟩
  rw [← hW0]
  have E : Ext w W0 := by rw [hW0]; exact (Ext.refl w).alloc _
  have HB_p : Hid (W0.heap[w.heap.size]? = some (.cells #[.int .i64 p0_0, .int .i64 p0_1, .slice p0_2a p0_2n p0_2c, .int .i64 p0_3, .int .i64 p0_4, .bool p0_5, .slice p0_6a p0_6n p0_6c, .slice p0_7a p0_7n p0_7c] 26 (0, 0))) := hide (by rw [hW0]; exact new_block w _)
  have hzW0 := hide (lt_of_block (unhide HB_p))
  clear hW0
  refine ((unhide HZ) _ E).mono ?_
  rintro e w1 ⟨r, rfl, hr, F1⟩
  have hs2 := hide (F1).size
  replace E := E.trans F1
  replace HB_p := hide ((F1).kept (unhide HB_p))
  by_cases hr0 : r < 0
  · go_wp2
    go_ret
    exact ⟨rfl, E.below⟩
  have hfit : Fit := hr (by omega)
  clear hr HZ
  have HTo0 := hide ((unhide HTo0') hfit)
  have HEqX0 := hide ((unhide HEqX0') hfit)
  have HMkX0 := hide ((unhide HMkX0') hfit).1
  have hmX0 := ((unhide HMkX0') hfit).2
  clear HTo0' HEqX0' HMkX0'
  have HEqK0 := hide ((unhide HEqK0') hfit)
  have HMkK0 := hide ((unhide HMkK0') hfit).1
  have hmK0 := ((unhide HMkK0') hfit).2
  have HHdK0 := hide ((unhide HHdK0') hfit)
  clear HEqK0' HMkK0' HHdK0'
  have HS := hide ((unhide HS') hfit)
  have HI := hide ((unhide HI') hfit)
  clear HS' HI' hfit
  have c_p_0 : w1.cell? ⟨w.heap.size, 0, none⟩ = some (.int .i64 p0_0) := cells_of (unhide HB_p) 0 _ rfl
  have c_p_1 : w1.cell? ⟨w.heap.size, 1, none⟩ = some (.int .i64 p0_1) := cells_of (unhide HB_p) 1 _ rfl
  have c_p_2 : w1.cell? ⟨w.heap.size, 2, none⟩ = some (.slice p0_2a p0_2n p0_2c) := cells_of (unhide HB_p) 2 _ rfl
  have c_p_3 : w1.cell? ⟨w.heap.size, 3, none⟩ = some (.int .i64 p0_3) := cells_of (unhide HB_p) 3 _ rfl
  have c_p_4 : w1.cell? ⟨w.heap.size, 4, none⟩ = some (.int .i64 p0_4) := cells_of (unhide HB_p) 4 _ rfl
  have c_p_5 : w1.cell? ⟨w.heap.size, 5, none⟩ = some (.bool p0_5) := cells_of (unhide HB_p) 5 _ rfl
  have c_p_6 : w1.cell? ⟨w.heap.size, 6, none⟩ = some (.slice p0_6a p0_6n p0_6c) := cells_of (unhide HB_p) 6 _ rfl
  have c_p_7 : w1.cell? ⟨w.heap.size, 7, none⟩ = some (.slice p0_7a p0_7n p0_7c) := cells_of (unhide HB_p) 7 _ rfl
  go_wp2_with fail
  clear c_p_0 c_p_1 c_p_2 c_p_3 c_p_4 c_p_5 c_p_6 c_p_7
  refine ((unhide HTo0) _ E).mono ?_
  rintro e w3 ⟨ut0, St0, rfl, ot0, F4⟩
  have HL_t0 : Hid (∀ g, St0 g → w1.heap.size ≤ g ∧ g < w3.heap.size) := hide (X0.lt ot0)
  have hs5 := hide (F4).size
  replace E := E.trans F4
  replace HB_p := hide ((F4).kept (unhide HB_p))
  obtain ⟨t0_0, t0_1, t0_2a, t0_2n, t0_2c, t0_3, t0_4, t0_5, t0_6a, t0_6n, t0_6c, t0_7a, t0_7n, t0_7c, rfl⟩ := (unhide ShX0) _ _ (X0.reads ot0)
  have HO_t0 := hide ot0
  clear ot0
  go_wp2_with fail
  refine ((unhide HS) _ _ E (X0.reads (unhide HO_t0))).mono ?_
  rintro e w6 ⟨uw0, rfl, rw0, F7⟩
  have hs8 := hide (F7).size
  replace E := E.trans F7
  replace HB_p := hide ((F7).kept (unhide HB_p))
  replace HO_t0 := hide (X0.oext (unhide HO_t0) F7)
  obtain ⟨w0_0, w0_1, w0_2a, w0_2n, w0_2c, w0_3, w0_4, w0_5, w0_6a, w0_6n, w0_6c, w0_7a, w0_7n, w0_7c, rfl⟩ := (unhide ShK0) _ _ rw0
  have HR_w0 := hide rw0
  clear rw0
  have HEw := hide (Ext.refl w6)
  clear HO_t0
  have c_p_0 : ∀ o0, (w6.alloc o0).cell? ⟨w.heap.size, 0, none⟩ = some (.int .i64 p0_0) := fun o0 => ((Ext.refl w6).alloc o0).cell (cells_of (unhide HB_p) 0 _ rfl)
  have c_p_1 : ∀ o0, (w6.alloc o0).cell? ⟨w.heap.size, 1, none⟩ = some (.int .i64 p0_1) := fun o0 => ((Ext.refl w6).alloc o0).cell (cells_of (unhide HB_p) 1 _ rfl)
  have c_p_2 : ∀ o0, (w6.alloc o0).cell? ⟨w.heap.size, 2, none⟩ = some (.slice p0_2a p0_2n p0_2c) := fun o0 => ((Ext.refl w6).alloc o0).cell (cells_of (unhide HB_p) 2 _ rfl)
  have c_p_3 : ∀ o0, (w6.alloc o0).cell? ⟨w.heap.size, 3, none⟩ = some (.int .i64 p0_3) := fun o0 => ((Ext.refl w6).alloc o0).cell (cells_of (unhide HB_p) 3 _ rfl)
  have c_p_4 : ∀ o0, (w6.alloc o0).cell? ⟨w.heap.size, 4, none⟩ = some (.int .i64 p0_4) := fun o0 => ((Ext.refl w6).alloc o0).cell (cells_of (unhide HB_p) 4 _ rfl)
  have c_p_5 : ∀ o0, (w6.alloc o0).cell? ⟨w.heap.size, 5, none⟩ = some (.bool p0_5) := fun o0 => ((Ext.refl w6).alloc o0).cell (cells_of (unhide HB_p) 5 _ rfl)
  have c_p_6 : ∀ o0, (w6.alloc o0).cell? ⟨w.heap.size, 6, none⟩ = some (.slice p0_6a p0_6n p0_6c) := fun o0 => ((Ext.refl w6).alloc o0).cell (cells_of (unhide HB_p) 6 _ rfl)
  have c_p_7 : ∀ o0, (w6.alloc o0).cell? ⟨w.heap.size, 7, none⟩ = some (.slice p0_7a p0_7n p0_7c) := fun o0 => ((Ext.refl w6).alloc o0).cell (cells_of (unhide HB_p) 7 _ rfl)
  go_wp2_with fail
  clear c_p_0 c_p_1 c_p_2 c_p_3 c_p_4 c_p_5 c_p_6 c_p_7
  obtain ⟨V9, hV9⟩ : ∃ V9, V9 = w6.alloc (.cells #[.int .i64 w0_0, .int .i64 w0_1, .slice w0_2a w0_2n w0_2c, .int .i64 w0_3, .int .i64 w0_4, .bool w0_5, .slice w0_6a w0_6n w0_6c, .slice w0_7a w0_7n w0_7c] 31) := ⟨_, rfl⟩
  rw [← hV9]
  have FV9 : Ext w6 V9 := by rw [hV9]; exact (Ext.refl w6).alloc _
  have HB_w0 : Hid (V9.heap[w6.heap.size]? = some (.cells #[.int .i64 w0_0, .int .i64 w0_1, .slice w0_2a w0_2n w0_2c, .int .i64 w0_3, .int .i64 w0_4, .bool w0_5, .slice w0_6a w0_6n w0_6c, .slice w0_7a w0_7n w0_7c] 31 (0, 0))) := hide (by rw [hV9]; exact new_block w6 _)
  have hzV9 := hide (lt_of_block (unhide HB_w0))
  clear hV9
  have hs10 := hide (FV9).size
  replace E := E.trans FV9
  replace HB_p := hide ((FV9).kept (unhide HB_p))
  replace HEw := hide ((unhide HEw).trans FV9)
  refine ((unhide HTo0) _ E).mono ?_
  rintro e w11 ⟨ux0, Sx0, rfl, ox0, F12⟩
  have HL_x0 : Hid (∀ g, Sx0 g → V9.heap.size ≤ g ∧ g < w11.heap.size) := hide (X0.lt ox0)
  have hs13 := hide (F12).size
  replace E := E.trans F12
  replace HB_p := hide ((F12).kept (unhide HB_p))
  replace HB_w0 := hide ((F12).kept (unhide HB_w0))
  replace HEw := hide ((unhide HEw).trans F12)
  obtain ⟨x0_0, x0_1, x0_2a, x0_2n, x0_2c, x0_3, x0_4, x0_5, x0_6a, x0_6n, x0_6c, x0_7a, x0_7n, x0_7c, rfl⟩ := (unhide ShX0) _ _ (X0.reads ox0)
  have HO_x0 := hide ox0
  clear ox0
  go_wp2_with fail
  obtain ⟨V14, hV14⟩ : ∃ V14, V14 = w11.alloc (.cells #[.int .i64 x0_0, .int .i64 x0_1, .slice x0_2a x0_2n x0_2c, .int .i64 x0_3, .int .i64 x0_4, .bool x0_5, .slice x0_6a x0_6n x0_6c, .slice x0_7a x0_7n x0_7c] 31) := ⟨_, rfl⟩
  rw [← hV14]
  have FV14 : Ext w11 V14 := by rw [hV14]; exact (Ext.refl w11).alloc _
  have HB_x0 : Hid (V14.heap[w11.heap.size]? = some (.cells #[.int .i64 x0_0, .int .i64 x0_1, .slice x0_2a x0_2n x0_2c, .int .i64 x0_3, .int .i64 x0_4, .bool x0_5, .slice x0_6a x0_6n x0_6c, .slice x0_7a x0_7n x0_7c] 31 (0, 0))) := hide (by rw [hV14]; exact new_block w11 _)
  have hzV14 := hide (lt_of_block (unhide HB_x0))
  clear hV14
  have hs15 := hide (FV14).size
  replace E := E.trans FV14
  replace HB_p := hide ((FV14).kept (unhide HB_p))
  replace HB_w0 := hide ((FV14).kept (unhide HB_w0))
  replace HO_x0 := hide (X0.oext (unhide HO_x0) FV14)
  replace HEw := hide ((unhide HEw).trans FV14)
  refine ((unhide HI) _ _ E (X0.reads (unhide HO_x0))).mono ?_
  rintro e w16 ⟨ug0, Sg0, rfl, og0, F17⟩
  have HL_g0 : Hid (∀ g, Sg0 g → V14.heap.size ≤ g ∧ g < w16.heap.size) := hide (K0.lt og0)
  have hs18 := hide (F17).size
  replace E := E.trans F17
  replace HB_p := hide ((F17).kept (unhide HB_p))
  replace HB_w0 := hide ((F17).kept (unhide HB_w0))
  replace HB_x0 := hide ((F17).kept (unhide HB_x0))
  replace HO_x0 := hide (X0.oext (unhide HO_x0) F17)
  replace HEw := hide ((unhide HEw).trans F17)
  obtain ⟨g0_0, g0_1, g0_2a, g0_2n, g0_2c, g0_3, g0_4, g0_5, g0_6a, g0_6n, g0_6c, g0_7a, g0_7n, g0_7c, rfl⟩ := (unhide ShK0) _ _ (K0.reads og0)
  have HO_g0 := hide og0
  clear og0
  have c_w0_0 : ∀ o0, (w16.alloc o0).cell? ⟨w6.heap.size, 0, none⟩ = some (.int .i64 w0_0) := fun o0 => ((Ext.refl w16).alloc o0).cell (cells_of (unhide HB_w0) 0 _ rfl)
  have c_w0_1 : ∀ o0, (w16.alloc o0).cell? ⟨w6.heap.size, 1, none⟩ = some (.int .i64 w0_1) := fun o0 => ((Ext.refl w16).alloc o0).cell (cells_of (unhide HB_w0) 1 _ rfl)
  have c_w0_2 : ∀ o0, (w16.alloc o0).cell? ⟨w6.heap.size, 2, none⟩ = some (.slice w0_2a w0_2n w0_2c) := fun o0 => ((Ext.refl w16).alloc o0).cell (cells_of (unhide HB_w0) 2 _ rfl)
  have c_w0_3 : ∀ o0, (w16.alloc o0).cell? ⟨w6.heap.size, 3, none⟩ = some (.int .i64 w0_3) := fun o0 => ((Ext.refl w16).alloc o0).cell (cells_of (unhide HB_w0) 3 _ rfl)
  have c_w0_4 : ∀ o0, (w16.alloc o0).cell? ⟨w6.heap.size, 4, none⟩ = some (.int .i64 w0_4) := fun o0 => ((Ext.refl w16).alloc o0).cell (cells_of (unhide HB_w0) 4 _ rfl)
  have c_w0_5 : ∀ o0, (w16.alloc o0).cell? ⟨w6.heap.size, 5, none⟩ = some (.bool w0_5) := fun o0 => ((Ext.refl w16).alloc o0).cell (cells_of (unhide HB_w0) 5 _ rfl)
  have c_w0_6 : ∀ o0, (w16.alloc o0).cell? ⟨w6.heap.size, 6, none⟩ = some (.slice w0_6a w0_6n w0_6c) := fun o0 => ((Ext.refl w16).alloc o0).cell (cells_of (unhide HB_w0) 6 _ rfl)
  have c_w0_7 : ∀ o0, (w16.alloc o0).cell? ⟨w6.heap.size, 7, none⟩ = some (.slice w0_7a w0_7n w0_7c) := fun o0 => ((Ext.refl w16).alloc o0).cell (cells_of (unhide HB_w0) 7 _ rfl)
  go_wp2_with fail
  clear c_w0_0 c_w0_1 c_w0_2 c_w0_3 c_w0_4 c_w0_5 c_w0_6 c_w0_7
  obtain ⟨V19, hV19⟩ : ∃ V19, V19 = w16.alloc (.cells #[.int .i64 g0_0, .int .i64 g0_1, .slice g0_2a g0_2n g0_2c, .int .i64 g0_3, .int .i64 g0_4, .bool g0_5, .slice g0_6a g0_6n g0_6c, .slice g0_7a g0_7n g0_7c] 31) := ⟨_, rfl⟩
  rw [← hV19]
  have FV19 : Ext w16 V19 := by rw [hV19]; exact (Ext.refl w16).alloc _
  have HB_g0 : Hid (V19.heap[w16.heap.size]? = some (.cells #[.int .i64 g0_0, .int .i64 g0_1, .slice g0_2a g0_2n g0_2c, .int .i64 g0_3, .int .i64 g0_4, .bool g0_5, .slice g0_6a g0_6n g0_6c, .slice g0_7a g0_7n g0_7c] 31 (0, 0))) := hide (by rw [hV19]; exact new_block w16 _)
  have hzV19 := hide (lt_of_block (unhide HB_g0))
  clear hV19
  have hs20 := hide (FV19).size
  replace E := E.trans FV19
  replace HB_p := hide ((FV19).kept (unhide HB_p))
  replace HB_w0 := hide ((FV19).kept (unhide HB_w0))
  replace HB_x0 := hide ((FV19).kept (unhide HB_x0))
  replace HO_x0 := hide (X0.oext (unhide HO_x0) FV19)
  replace HO_g0 := hide (K0.oext (unhide HO_g0) FV19)
  replace HEw := hide ((unhide HEw).trans FV19)
  refine ((unhide HEqK0) _ _ _ (K0.reads (unhide HO_g0)) (K0.rext (unhide HR_w0) (unhide HEw))).mono ?_
  rintro e w21 ⟨rfl, F22⟩
  have hs23 := hide (F22).size
  replace E := E.trans F22
  replace HB_p := hide ((F22).kept (unhide HB_p))
  replace HB_w0 := hide ((F22).kept (unhide HB_w0))
  replace HB_x0 := hide ((F22).kept (unhide HB_x0))
  replace HB_g0 := hide ((F22).kept (unhide HB_g0))
  replace HO_x0 := hide (X0.oext (unhide HO_x0) F22)
  replace HO_g0 := hide (K0.oext (unhide HO_g0) F22)
  replace HEw := hide ((unhide HEw).trans F22)
  have c_x0_0 : w21.cell? ⟨w11.heap.size, 0, none⟩ = some (.int .i64 x0_0) := cells_of (unhide HB_x0) 0 _ rfl
  have c_x0_1 : w21.cell? ⟨w11.heap.size, 1, none⟩ = some (.int .i64 x0_1) := cells_of (unhide HB_x0) 1 _ rfl
  have c_x0_2 : w21.cell? ⟨w11.heap.size, 2, none⟩ = some (.slice x0_2a x0_2n x0_2c) := cells_of (unhide HB_x0) 2 _ rfl
  have c_x0_3 : w21.cell? ⟨w11.heap.size, 3, none⟩ = some (.int .i64 x0_3) := cells_of (unhide HB_x0) 3 _ rfl
  have c_x0_4 : w21.cell? ⟨w11.heap.size, 4, none⟩ = some (.int .i64 x0_4) := cells_of (unhide HB_x0) 4 _ rfl
  have c_x0_5 : w21.cell? ⟨w11.heap.size, 5, none⟩ = some (.bool x0_5) := cells_of (unhide HB_x0) 5 _ rfl
  have c_x0_6 : w21.cell? ⟨w11.heap.size, 6, none⟩ = some (.slice x0_6a x0_6n x0_6c) := cells_of (unhide HB_x0) 6 _ rfl
  have c_x0_7 : w21.cell? ⟨w11.heap.size, 7, none⟩ = some (.slice x0_7a x0_7n x0_7c) := cells_of (unhide HB_x0) 7 _ rfl
  have c_p_0 : w21.cell? ⟨w.heap.size, 0, none⟩ = some (.int .i64 p0_0) := cells_of (unhide HB_p) 0 _ rfl
  have c_p_1 : w21.cell? ⟨w.heap.size, 1, none⟩ = some (.int .i64 p0_1) := cells_of (unhide HB_p) 1 _ rfl
  have c_p_2 : w21.cell? ⟨w.heap.size, 2, none⟩ = some (.slice p0_2a p0_2n p0_2c) := cells_of (unhide HB_p) 2 _ rfl
  have c_p_3 : w21.cell? ⟨w.heap.size, 3, none⟩ = some (.int .i64 p0_3) := cells_of (unhide HB_p) 3 _ rfl
  have c_p_4 : w21.cell? ⟨w.heap.size, 4, none⟩ = some (.int .i64 p0_4) := cells_of (unhide HB_p) 4 _ rfl
  have c_p_5 : w21.cell? ⟨w.heap.size, 5, none⟩ = some (.bool p0_5) := cells_of (unhide HB_p) 5 _ rfl
  have c_p_6 : w21.cell? ⟨w.heap.size, 6, none⟩ = some (.slice p0_6a p0_6n p0_6c) := cells_of (unhide HB_p) 6 _ rfl
  have c_p_7 : w21.cell? ⟨w.heap.size, 7, none⟩ = some (.slice p0_7a p0_7n p0_7c) := cells_of (unhide HB_p) 7 _ rfl
  go_wp2
  have HTt := hide (fun U (hU : Ext w21 U) => (unhide HTo0) U (E.trans hU))
  go_region_held3 (fun W => W.cell? ⟨w11.heap.size, 0, none⟩ = some (.int .i64 x0_0) ∧ W.cell? ⟨w11.heap.size, 1, none⟩ = some (.int .i64 x0_1) ∧ W.cell? ⟨w11.heap.size, 2, none⟩ = some (.slice x0_2a x0_2n x0_2c) ∧ W.cell? ⟨w11.heap.size, 3, none⟩ = some (.int .i64 x0_3) ∧ W.cell? ⟨w11.heap.size, 4, none⟩ = some (.int .i64 x0_4) ∧ W.cell? ⟨w11.heap.size, 5, none⟩ = some (.bool x0_5) ∧ W.cell? ⟨w11.heap.size, 6, none⟩ = some (.slice x0_6a x0_6n x0_6c) ∧ W.cell? ⟨w11.heap.size, 7, none⟩ = some (.slice x0_7a x0_7n x0_7c) ∧ W.cell? ⟨w.heap.size, 0, none⟩ = some (.int .i64 p0_0) ∧ W.cell? ⟨w.heap.size, 1, none⟩ = some (.int .i64 p0_1) ∧ W.cell? ⟨w.heap.size, 2, none⟩ = some (.slice p0_2a p0_2n p0_2c) ∧ W.cell? ⟨w.heap.size, 3, none⟩ = some (.int .i64 p0_3) ∧ W.cell? ⟨w.heap.size, 4, none⟩ = some (.int .i64 p0_4) ∧ W.cell? ⟨w.heap.size, 5, none⟩ = some (.bool p0_5) ∧ W.cell? ⟨w.heap.size, 6, none⟩ = some (.slice p0_6a p0_6n p0_6c) ∧ W.cell? ⟨w.heap.size, 7, none⟩ = some (.slice p0_7a p0_7n p0_7c)) (first | exact ⟨c_x0_0, c_x0_1, c_x0_2, c_x0_3, c_x0_4, c_x0_5, c_x0_6, c_x0_7, c_p_0, c_p_1, c_p_2, c_p_3, c_p_4, c_p_5, c_p_6, c_p_7⟩ | exact ⟨he'.cell c_x0_0, he'.cell c_x0_1, he'.cell c_x0_2, he'.cell c_x0_3, he'.cell c_x0_4, he'.cell c_x0_5, he'.cell c_x0_6, he'.cell c_x0_7, he'.cell c_p_0, he'.cell c_p_1, he'.cell c_p_2, he'.cell c_p_3, he'.cell c_p_4, he'.cell c_p_5, he'.cell c_p_6, he'.cell c_p_7⟩)
    (first
      | (go_at_call 11; refine ((unhide HTt) _ (Ext.refl w21).drew).mono ?_; rintro e w24 ⟨uT, ST, rfl, oT, FT⟩; have he' := (Ext.refl w21).drew.trans FT; obtain ⟨yx0, yx1, yx2a, yx2n, yx2c, yx3, yx4, yx5, yx6a, yx6n, yx6c, yx7a, yx7n, yx7c, rfl⟩ := (unhide ShX0) _ _ (X0.reads oT); have RT := hide (X0.reads oT); clear oT FT)
      | (go_at_call 14; refine ((unhide HEqX0) _ _ _ (X0.rext (X0.reads (unhide HO_x0)) he') (unhide RT)).mono ?_; rintro e w25 ⟨rfl, FE⟩; have he' := he'.trans FE; clear FE))
  clear HTt RT c_x0_0 c_x0_1 c_x0_2 c_x0_3 c_x0_4 c_x0_5 c_x0_6 c_x0_7 c_p_0 c_p_1 c_p_2 c_p_3 c_p_4 c_p_5 c_p_6 c_p_7
  have F26 := he'
  clear he'
  have hs27 := hide (F26).size
  replace E := E.trans F26
  replace HB_p := hide ((F26).kept (unhide HB_p))
  replace HB_w0 := hide ((F26).kept (unhide HB_w0))
  replace HB_x0 := hide ((F26).kept (unhide HB_x0))
  replace HB_g0 := hide ((F26).kept (unhide HB_g0))
  replace HO_x0 := hide (X0.oext (unhide HO_x0) F26)
  replace HO_g0 := hide (K0.oext (unhide HO_g0) F26)
  replace HEw := hide ((unhide HEw).trans F26)
  have c_x0_0 : w25.cell? ⟨w11.heap.size, 0, none⟩ = some (.int .i64 x0_0) := cells_of (unhide HB_x0) 0 _ rfl
  have c_x0_1 : w25.cell? ⟨w11.heap.size, 1, none⟩ = some (.int .i64 x0_1) := cells_of (unhide HB_x0) 1 _ rfl
  have c_x0_2 : w25.cell? ⟨w11.heap.size, 2, none⟩ = some (.slice x0_2a x0_2n x0_2c) := cells_of (unhide HB_x0) 2 _ rfl
  have c_x0_3 : w25.cell? ⟨w11.heap.size, 3, none⟩ = some (.int .i64 x0_3) := cells_of (unhide HB_x0) 3 _ rfl
  have c_x0_4 : w25.cell? ⟨w11.heap.size, 4, none⟩ = some (.int .i64 x0_4) := cells_of (unhide HB_x0) 4 _ rfl
  have c_x0_5 : w25.cell? ⟨w11.heap.size, 5, none⟩ = some (.bool x0_5) := cells_of (unhide HB_x0) 5 _ rfl
  have c_x0_6 : w25.cell? ⟨w11.heap.size, 6, none⟩ = some (.slice x0_6a x0_6n x0_6c) := cells_of (unhide HB_x0) 6 _ rfl
  have c_x0_7 : w25.cell? ⟨w11.heap.size, 7, none⟩ = some (.slice x0_7a x0_7n x0_7c) := cells_of (unhide HB_x0) 7 _ rfl
  go_wp2_with fail
  clear c_x0_0 c_x0_1 c_x0_2 c_x0_3 c_x0_4 c_x0_5 c_x0_6 c_x0_7
  refine ((unhide HMkX0) _ _ _ _ _ (unhide HO_x0) (by omega) (by omega)).mono ?_
  rintro e w28 ⟨rfl, om, F29⟩
  replace E := F29.ext E (fun _ h9 => by have b9 := (unhide HL_x0) _ h9; have z0 := unhide hzW0; have z1 := unhide hs2; have z2 := unhide hs5; have z3 := unhide hs8; have z4 := unhide hzV9; have z5 := unhide hs10; have z6 := unhide hs13; have z7 := unhide hzV14; have z8 := unhide hs15; have z9 := unhide hs18; have z10 := unhide hzV19; have z11 := unhide hs20; have z12 := unhide hs23; have z13 := unhide hs27; omega)
  replace HEw := hide (F29.ext (unhide HEw) (fun _ h9 => by have b9 := (unhide HL_x0) _ h9; have z0 := unhide hzW0; have z1 := unhide hs2; have z2 := unhide hs5; have z3 := unhide hs8; have z4 := unhide hzV9; have z5 := unhide hs10; have z6 := unhide hs13; have z7 := unhide hzV14; have z8 := unhide hs15; have z9 := unhide hs18; have z10 := unhide hzV19; have z11 := unhide hs20; have z12 := unhide hs23; have z13 := unhide hs27; omega))
  replace HB_p := hide (F29.kept (unhide HB_p) (fun h9 => by have b9 := (unhide HL_x0) _ h9; have z0 := unhide hzW0; have z1 := unhide hs2; have z2 := unhide hs5; have z3 := unhide hs8; have z4 := unhide hzV9; have z5 := unhide hs10; have z6 := unhide hs13; have z7 := unhide hzV14; have z8 := unhide hs15; have z9 := unhide hs18; have z10 := unhide hzV19; have z11 := unhide hs20; have z12 := unhide hs23; have z13 := unhide hs27; omega))
  replace HB_w0 := hide (F29.kept (unhide HB_w0) (fun h9 => by have b9 := (unhide HL_x0) _ h9; have z0 := unhide hzW0; have z1 := unhide hs2; have z2 := unhide hs5; have z3 := unhide hs8; have z4 := unhide hzV9; have z5 := unhide hs10; have z6 := unhide hs13; have z7 := unhide hzV14; have z8 := unhide hs15; have z9 := unhide hs18; have z10 := unhide hzV19; have z11 := unhide hs20; have z12 := unhide hs23; have z13 := unhide hs27; omega))
  replace HB_x0 := hide (F29.kept (unhide HB_x0) (fun h9 => by have b9 := (unhide HL_x0) _ h9; have z0 := unhide hzW0; have z1 := unhide hs2; have z2 := unhide hs5; have z3 := unhide hs8; have z4 := unhide hzV9; have z5 := unhide hs10; have z6 := unhide hs13; have z7 := unhide hzV14; have z8 := unhide hs15; have z9 := unhide hs18; have z10 := unhide hzV19; have z11 := unhide hs20; have z12 := unhide hs23; have z13 := unhide hs27; omega))
  replace HB_g0 := hide (F29.kept (unhide HB_g0) (fun h9 => by have b9 := (unhide HL_x0) _ h9; have z0 := unhide hzW0; have z1 := unhide hs2; have z2 := unhide hs5; have z3 := unhide hs8; have z4 := unhide hzV9; have z5 := unhide hs10; have z6 := unhide hs13; have z7 := unhide hzV14; have z8 := unhide hs15; have z9 := unhide hs18; have z10 := unhide hzV19; have z11 := unhide hs20; have z12 := unhide hs23; have z13 := unhide hs27; omega))
  replace HO_g0 := hide (K0.ofr (unhide HO_g0) F29 (fun q9 h8 h9 => by have b8 := (unhide HL_g0) q9 h8; have b9 := (unhide HL_x0) q9 h9; have z0 := unhide hzW0; have z1 := unhide hs2; have z2 := unhide hs5; have z3 := unhide hs8; have z4 := unhide hzV9; have z5 := unhide hs10; have z6 := unhide hs13; have z7 := unhide hzV14; have z8 := unhide hs15; have z9 := unhide hs18; have z10 := unhide hzV19; have z11 := unhide hs20; have z12 := unhide hs23; have z13 := unhide hs27; omega))
  have hs30 := hide F29.size
  replace HO_x0 := hide om
  clear om
  have hkk : ¬ (1 + (mX0 : Int) : Int) < 0 := by omega
  clear HO_x0
  clear HB_x0
  have c_g0_0 : w28.cell? ⟨w16.heap.size, 0, none⟩ = some (.int .i64 g0_0) := cells_of (unhide HB_g0) 0 _ rfl
  have c_g0_1 : w28.cell? ⟨w16.heap.size, 1, none⟩ = some (.int .i64 g0_1) := cells_of (unhide HB_g0) 1 _ rfl
  have c_g0_2 : w28.cell? ⟨w16.heap.size, 2, none⟩ = some (.slice g0_2a g0_2n g0_2c) := cells_of (unhide HB_g0) 2 _ rfl
  have c_g0_3 : w28.cell? ⟨w16.heap.size, 3, none⟩ = some (.int .i64 g0_3) := cells_of (unhide HB_g0) 3 _ rfl
  have c_g0_4 : w28.cell? ⟨w16.heap.size, 4, none⟩ = some (.int .i64 g0_4) := cells_of (unhide HB_g0) 4 _ rfl
  have c_g0_5 : w28.cell? ⟨w16.heap.size, 5, none⟩ = some (.bool g0_5) := cells_of (unhide HB_g0) 5 _ rfl
  have c_g0_6 : w28.cell? ⟨w16.heap.size, 6, none⟩ = some (.slice g0_6a g0_6n g0_6c) := cells_of (unhide HB_g0) 6 _ rfl
  have c_g0_7 : w28.cell? ⟨w16.heap.size, 7, none⟩ = some (.slice g0_7a g0_7n g0_7c) := cells_of (unhide HB_g0) 7 _ rfl
  have c_w0_0 : w28.cell? ⟨w6.heap.size, 0, none⟩ = some (.int .i64 w0_0) := cells_of (unhide HB_w0) 0 _ rfl
  have c_w0_1 : w28.cell? ⟨w6.heap.size, 1, none⟩ = some (.int .i64 w0_1) := cells_of (unhide HB_w0) 1 _ rfl
  have c_w0_2 : w28.cell? ⟨w6.heap.size, 2, none⟩ = some (.slice w0_2a w0_2n w0_2c) := cells_of (unhide HB_w0) 2 _ rfl
  have c_w0_3 : w28.cell? ⟨w6.heap.size, 3, none⟩ = some (.int .i64 w0_3) := cells_of (unhide HB_w0) 3 _ rfl
  have c_w0_4 : w28.cell? ⟨w6.heap.size, 4, none⟩ = some (.int .i64 w0_4) := cells_of (unhide HB_w0) 4 _ rfl
  have c_w0_5 : w28.cell? ⟨w6.heap.size, 5, none⟩ = some (.bool w0_5) := cells_of (unhide HB_w0) 5 _ rfl
  have c_w0_6 : w28.cell? ⟨w6.heap.size, 6, none⟩ = some (.slice w0_6a w0_6n w0_6c) := cells_of (unhide HB_w0) 6 _ rfl
  have c_w0_7 : w28.cell? ⟨w6.heap.size, 7, none⟩ = some (.slice w0_7a w0_7n w0_7c) := cells_of (unhide HB_w0) 7 _ rfl
  go_wp2_with fail
  clear c_g0_0 c_g0_1 c_g0_2 c_g0_3 c_g0_4 c_g0_5 c_g0_6 c_g0_7 c_w0_0 c_w0_1 c_w0_2 c_w0_3 c_w0_4 c_w0_5 c_w0_6 c_w0_7
  refine ((unhide HEqK0) _ _ _ (K0.reads (unhide HO_g0)) (K0.rext (unhide HR_w0) (unhide HEw))).mono ?_
  rintro e w31 ⟨rfl, F32⟩
  have hs33 := hide (F32).size
  replace E := E.trans F32
  replace HB_p := hide ((F32).kept (unhide HB_p))
  replace HB_w0 := hide ((F32).kept (unhide HB_w0))
  replace HB_g0 := hide ((F32).kept (unhide HB_g0))
  replace HO_g0 := hide (K0.oext (unhide HO_g0) F32)
  replace HEw := hide ((unhide HEw).trans F32)
  have c_g0_0 : w31.cell? ⟨w16.heap.size, 0, none⟩ = some (.int .i64 g0_0) := cells_of (unhide HB_g0) 0 _ rfl
  have c_g0_1 : w31.cell? ⟨w16.heap.size, 1, none⟩ = some (.int .i64 g0_1) := cells_of (unhide HB_g0) 1 _ rfl
  have c_g0_2 : w31.cell? ⟨w16.heap.size, 2, none⟩ = some (.slice g0_2a g0_2n g0_2c) := cells_of (unhide HB_g0) 2 _ rfl
  have c_g0_3 : w31.cell? ⟨w16.heap.size, 3, none⟩ = some (.int .i64 g0_3) := cells_of (unhide HB_g0) 3 _ rfl
  have c_g0_4 : w31.cell? ⟨w16.heap.size, 4, none⟩ = some (.int .i64 g0_4) := cells_of (unhide HB_g0) 4 _ rfl
  have c_g0_5 : w31.cell? ⟨w16.heap.size, 5, none⟩ = some (.bool g0_5) := cells_of (unhide HB_g0) 5 _ rfl
  have c_g0_6 : w31.cell? ⟨w16.heap.size, 6, none⟩ = some (.slice g0_6a g0_6n g0_6c) := cells_of (unhide HB_g0) 6 _ rfl
  have c_g0_7 : w31.cell? ⟨w16.heap.size, 7, none⟩ = some (.slice g0_7a g0_7n g0_7c) := cells_of (unhide HB_g0) 7 _ rfl
  go_wp2_with fail
  clear c_g0_0 c_g0_1 c_g0_2 c_g0_3 c_g0_4 c_g0_5 c_g0_6 c_g0_7
  refine ((unhide HMkK0) _ _ _ _ _ (unhide HO_g0) (by omega) (by omega)).mono ?_
  rintro e w34 ⟨rfl, om, F35⟩
  replace E := F35.ext E (fun _ h9 => by have b9 := (unhide HL_g0) _ h9; have z0 := unhide hzW0; have z1 := unhide hs2; have z2 := unhide hs5; have z3 := unhide hs8; have z4 := unhide hzV9; have z5 := unhide hs10; have z6 := unhide hs13; have z7 := unhide hzV14; have z8 := unhide hs15; have z9 := unhide hs18; have z10 := unhide hzV19; have z11 := unhide hs20; have z12 := unhide hs23; have z13 := unhide hs27; have z14 := unhide hs30; have z15 := unhide hs33; omega)
  replace HEw := hide (F35.ext (unhide HEw) (fun _ h9 => by have b9 := (unhide HL_g0) _ h9; have z0 := unhide hzW0; have z1 := unhide hs2; have z2 := unhide hs5; have z3 := unhide hs8; have z4 := unhide hzV9; have z5 := unhide hs10; have z6 := unhide hs13; have z7 := unhide hzV14; have z8 := unhide hs15; have z9 := unhide hs18; have z10 := unhide hzV19; have z11 := unhide hs20; have z12 := unhide hs23; have z13 := unhide hs27; have z14 := unhide hs30; have z15 := unhide hs33; omega))
  replace HB_p := hide (F35.kept (unhide HB_p) (fun h9 => by have b9 := (unhide HL_g0) _ h9; have z0 := unhide hzW0; have z1 := unhide hs2; have z2 := unhide hs5; have z3 := unhide hs8; have z4 := unhide hzV9; have z5 := unhide hs10; have z6 := unhide hs13; have z7 := unhide hzV14; have z8 := unhide hs15; have z9 := unhide hs18; have z10 := unhide hzV19; have z11 := unhide hs20; have z12 := unhide hs23; have z13 := unhide hs27; have z14 := unhide hs30; have z15 := unhide hs33; omega))
  replace HB_w0 := hide (F35.kept (unhide HB_w0) (fun h9 => by have b9 := (unhide HL_g0) _ h9; have z0 := unhide hzW0; have z1 := unhide hs2; have z2 := unhide hs5; have z3 := unhide hs8; have z4 := unhide hzV9; have z5 := unhide hs10; have z6 := unhide hs13; have z7 := unhide hzV14; have z8 := unhide hs15; have z9 := unhide hs18; have z10 := unhide hzV19; have z11 := unhide hs20; have z12 := unhide hs23; have z13 := unhide hs27; have z14 := unhide hs30; have z15 := unhide hs33; omega))
  replace HB_g0 := hide (F35.kept (unhide HB_g0) (fun h9 => by have b9 := (unhide HL_g0) _ h9; have z0 := unhide hzW0; have z1 := unhide hs2; have z2 := unhide hs5; have z3 := unhide hs8; have z4 := unhide hzV9; have z5 := unhide hs10; have z6 := unhide hs13; have z7 := unhide hzV14; have z8 := unhide hs15; have z9 := unhide hs18; have z10 := unhide hzV19; have z11 := unhide hs20; have z12 := unhide hs23; have z13 := unhide hs27; have z14 := unhide hs30; have z15 := unhide hs33; omega))
  have hs36 := hide F35.size
  replace HO_g0 := hide om
  clear om
  have hq0 : ¬ (1 + (mK0 : Int) : Int) < 0 := by omega
  have c_g0_0 : w34.cell? ⟨w16.heap.size, 0, none⟩ = some (.int .i64 g0_0) := cells_of (unhide HB_g0) 0 _ rfl
  have c_g0_1 : w34.cell? ⟨w16.heap.size, 1, none⟩ = some (.int .i64 g0_1) := cells_of (unhide HB_g0) 1 _ rfl
  have c_g0_2 : w34.cell? ⟨w16.heap.size, 2, none⟩ = some (.slice g0_2a g0_2n g0_2c) := cells_of (unhide HB_g0) 2 _ rfl
  have c_g0_3 : w34.cell? ⟨w16.heap.size, 3, none⟩ = some (.int .i64 g0_3) := cells_of (unhide HB_g0) 3 _ rfl
  have c_g0_4 : w34.cell? ⟨w16.heap.size, 4, none⟩ = some (.int .i64 g0_4) := cells_of (unhide HB_g0) 4 _ rfl
  have c_g0_5 : w34.cell? ⟨w16.heap.size, 5, none⟩ = some (.bool g0_5) := cells_of (unhide HB_g0) 5 _ rfl
  have c_g0_6 : w34.cell? ⟨w16.heap.size, 6, none⟩ = some (.slice g0_6a g0_6n g0_6c) := cells_of (unhide HB_g0) 6 _ rfl
  have c_g0_7 : w34.cell? ⟨w16.heap.size, 7, none⟩ = some (.slice g0_7a g0_7n g0_7c) := cells_of (unhide HB_g0) 7 _ rfl
  go_wp2_with fail
  clear c_g0_0 c_g0_1 c_g0_2 c_g0_3 c_g0_4 c_g0_5 c_g0_6 c_g0_7
  refine ((unhide HHdK0) _ _ _ ((MK0 (1)).reads (unhide HO_g0)) (by omega) (by omega)).mono ?_
  rintro e w37 ⟨rfl, F38⟩
  have hs39 := hide (F38).size
  replace E := E.trans F38
  replace HB_p := hide ((F38).kept (unhide HB_p))
  replace HB_w0 := hide ((F38).kept (unhide HB_w0))
  replace HB_g0 := hide ((F38).kept (unhide HB_g0))
  replace HO_g0 := hide ((MK0 (1)).oext (unhide HO_g0) F38)
  replace HEw := hide ((unhide HEw).trans F38)
  have c_p_0 : w37.cell? ⟨w.heap.size, 0, none⟩ = some (.int .i64 p0_0) := cells_of (unhide HB_p) 0 _ rfl
  have c_p_1 : w37.cell? ⟨w.heap.size, 1, none⟩ = some (.int .i64 p0_1) := cells_of (unhide HB_p) 1 _ rfl
  have c_p_2 : w37.cell? ⟨w.heap.size, 2, none⟩ = some (.slice p0_2a p0_2n p0_2c) := cells_of (unhide HB_p) 2 _ rfl
  have c_p_3 : w37.cell? ⟨w.heap.size, 3, none⟩ = some (.int .i64 p0_3) := cells_of (unhide HB_p) 3 _ rfl
  have c_p_4 : w37.cell? ⟨w.heap.size, 4, none⟩ = some (.int .i64 p0_4) := cells_of (unhide HB_p) 4 _ rfl
  have c_p_5 : w37.cell? ⟨w.heap.size, 5, none⟩ = some (.bool p0_5) := cells_of (unhide HB_p) 5 _ rfl
  have c_p_6 : w37.cell? ⟨w.heap.size, 6, none⟩ = some (.slice p0_6a p0_6n p0_6c) := cells_of (unhide HB_p) 6 _ rfl
  have c_p_7 : w37.cell? ⟨w.heap.size, 7, none⟩ = some (.slice p0_7a p0_7n p0_7c) := cells_of (unhide HB_p) 7 _ rfl
  go_wp2_with fail
  clear c_p_0 c_p_1 c_p_2 c_p_3 c_p_4 c_p_5 c_p_6 c_p_7
  refine ((unhide HTo0) _ E).mono ?_
  rintro e w40 ⟨ut0, St0, rfl, ot0, F41⟩
  have HL_t0 : Hid (∀ g, St0 g → w37.heap.size ≤ g ∧ g < w40.heap.size) := hide (X0.lt ot0)
  have hs42 := hide (F41).size
  replace E := E.trans F41
  replace HB_p := hide ((F41).kept (unhide HB_p))
  replace HB_w0 := hide ((F41).kept (unhide HB_w0))
  replace HB_g0 := hide ((F41).kept (unhide HB_g0))
  replace HO_g0 := hide ((MK0 (1)).oext (unhide HO_g0) F41)
  replace HEw := hide ((unhide HEw).trans F41)
  obtain ⟨t0_0, t0_1, t0_2a, t0_2n, t0_2c, t0_3, t0_4, t0_5, t0_6a, t0_6n, t0_6c, t0_7a, t0_7n, t0_7c, rfl⟩ := (unhide ShX0) _ _ (X0.reads ot0)
  have HO_t0 := hide ot0
  clear ot0
  go_wp2_with fail
  refine ((unhide HI) _ _ E (X0.reads (unhide HO_t0))).mono ?_
  rintro e w43 ⟨uh0, Sh0, rfl, oh0, F44⟩
  have HL_h0 : Hid (∀ g, Sh0 g → w40.heap.size ≤ g ∧ g < w43.heap.size) := hide (K0.lt oh0)
  have hs45 := hide (F44).size
  replace E := E.trans F44
  replace HB_p := hide ((F44).kept (unhide HB_p))
  replace HB_w0 := hide ((F44).kept (unhide HB_w0))
  replace HB_g0 := hide ((F44).kept (unhide HB_g0))
  replace HO_g0 := hide ((MK0 (1)).oext (unhide HO_g0) F44)
  replace HO_t0 := hide (X0.oext (unhide HO_t0) F44)
  replace HEw := hide ((unhide HEw).trans F44)
  obtain ⟨h0_0, h0_1, h0_2a, h0_2n, h0_2c, h0_3, h0_4, h0_5, h0_6a, h0_6n, h0_6c, h0_7a, h0_7n, h0_7c, rfl⟩ := (unhide ShK0) _ _ (K0.reads oh0)
  have HO_h0 := hide oh0
  clear oh0
  clear HO_t0
  have c_w0_0 : ∀ o0, (w43.alloc o0).cell? ⟨w6.heap.size, 0, none⟩ = some (.int .i64 w0_0) := fun o0 => ((Ext.refl w43).alloc o0).cell (cells_of (unhide HB_w0) 0 _ rfl)
  have c_w0_1 : ∀ o0, (w43.alloc o0).cell? ⟨w6.heap.size, 1, none⟩ = some (.int .i64 w0_1) := fun o0 => ((Ext.refl w43).alloc o0).cell (cells_of (unhide HB_w0) 1 _ rfl)
  have c_w0_2 : ∀ o0, (w43.alloc o0).cell? ⟨w6.heap.size, 2, none⟩ = some (.slice w0_2a w0_2n w0_2c) := fun o0 => ((Ext.refl w43).alloc o0).cell (cells_of (unhide HB_w0) 2 _ rfl)
  have c_w0_3 : ∀ o0, (w43.alloc o0).cell? ⟨w6.heap.size, 3, none⟩ = some (.int .i64 w0_3) := fun o0 => ((Ext.refl w43).alloc o0).cell (cells_of (unhide HB_w0) 3 _ rfl)
  have c_w0_4 : ∀ o0, (w43.alloc o0).cell? ⟨w6.heap.size, 4, none⟩ = some (.int .i64 w0_4) := fun o0 => ((Ext.refl w43).alloc o0).cell (cells_of (unhide HB_w0) 4 _ rfl)
  have c_w0_5 : ∀ o0, (w43.alloc o0).cell? ⟨w6.heap.size, 5, none⟩ = some (.bool w0_5) := fun o0 => ((Ext.refl w43).alloc o0).cell (cells_of (unhide HB_w0) 5 _ rfl)
  have c_w0_6 : ∀ o0, (w43.alloc o0).cell? ⟨w6.heap.size, 6, none⟩ = some (.slice w0_6a w0_6n w0_6c) := fun o0 => ((Ext.refl w43).alloc o0).cell (cells_of (unhide HB_w0) 6 _ rfl)
  have c_w0_7 : ∀ o0, (w43.alloc o0).cell? ⟨w6.heap.size, 7, none⟩ = some (.slice w0_7a w0_7n w0_7c) := fun o0 => ((Ext.refl w43).alloc o0).cell (cells_of (unhide HB_w0) 7 _ rfl)
  go_wp2_with fail
  clear c_w0_0 c_w0_1 c_w0_2 c_w0_3 c_w0_4 c_w0_5 c_w0_6 c_w0_7
  obtain ⟨V46, hV46⟩ : ∃ V46, V46 = w43.alloc (.cells #[.int .i64 h0_0, .int .i64 h0_1, .slice h0_2a h0_2n h0_2c, .int .i64 h0_3, .int .i64 h0_4, .bool h0_5, .slice h0_6a h0_6n h0_6c, .slice h0_7a h0_7n h0_7c] 31) := ⟨_, rfl⟩
  rw [← hV46]
  have FV46 : Ext w43 V46 := by rw [hV46]; exact (Ext.refl w43).alloc _
  have HB_h0 : Hid (V46.heap[w43.heap.size]? = some (.cells #[.int .i64 h0_0, .int .i64 h0_1, .slice h0_2a h0_2n h0_2c, .int .i64 h0_3, .int .i64 h0_4, .bool h0_5, .slice h0_6a h0_6n h0_6c, .slice h0_7a h0_7n h0_7c] 31 (0, 0))) := hide (by rw [hV46]; exact new_block w43 _)
  have hzV46 := hide (lt_of_block (unhide HB_h0))
  clear hV46
  have hs47 := hide (FV46).size
  replace E := E.trans FV46
  replace HB_p := hide ((FV46).kept (unhide HB_p))
  replace HB_w0 := hide ((FV46).kept (unhide HB_w0))
  replace HB_g0 := hide ((FV46).kept (unhide HB_g0))
  replace HO_g0 := hide ((MK0 (1)).oext (unhide HO_g0) FV46)
  replace HO_h0 := hide (K0.oext (unhide HO_h0) FV46)
  replace HEw := hide ((unhide HEw).trans FV46)
  refine ((unhide HEqK0) _ _ _ (K0.reads (unhide HO_h0)) (K0.rext (unhide HR_w0) (unhide HEw))).mono ?_
  rintro e w48 ⟨rfl, F49⟩
  have hs50 := hide (F49).size
  replace E := E.trans F49
  replace HB_p := hide ((F49).kept (unhide HB_p))
  replace HB_w0 := hide ((F49).kept (unhide HB_w0))
  replace HB_g0 := hide ((F49).kept (unhide HB_g0))
  replace HB_h0 := hide ((F49).kept (unhide HB_h0))
  replace HO_g0 := hide ((MK0 (1)).oext (unhide HO_g0) F49)
  replace HO_h0 := hide (K0.oext (unhide HO_h0) F49)
  replace HEw := hide ((unhide HEw).trans F49)
  have hq0 : ¬ (1 + (mK0 : Int) : Int) < 0 := by omega
  have c_g0_0 : w48.cell? ⟨w16.heap.size, 0, none⟩ = some (.int .i64 g0_0) := cells_of (unhide HB_g0) 0 _ rfl
  have c_g0_1 : w48.cell? ⟨w16.heap.size, 1, none⟩ = some (.int .i64 g0_1) := cells_of (unhide HB_g0) 1 _ rfl
  have c_g0_2 : w48.cell? ⟨w16.heap.size, 2, none⟩ = some (.slice g0_2a g0_2n g0_2c) := cells_of (unhide HB_g0) 2 _ rfl
  have c_g0_3 : w48.cell? ⟨w16.heap.size, 3, none⟩ = some (.int .i64 g0_3) := cells_of (unhide HB_g0) 3 _ rfl
  have c_g0_4 : w48.cell? ⟨w16.heap.size, 4, none⟩ = some (.int .i64 g0_4) := cells_of (unhide HB_g0) 4 _ rfl
  have c_g0_5 : w48.cell? ⟨w16.heap.size, 5, none⟩ = some (.bool g0_5) := cells_of (unhide HB_g0) 5 _ rfl
  have c_g0_6 : w48.cell? ⟨w16.heap.size, 6, none⟩ = some (.slice g0_6a g0_6n g0_6c) := cells_of (unhide HB_g0) 6 _ rfl
  have c_g0_7 : w48.cell? ⟨w16.heap.size, 7, none⟩ = some (.slice g0_7a g0_7n g0_7c) := cells_of (unhide HB_g0) 7 _ rfl
  go_wp2_with fail
  clear c_g0_0 c_g0_1 c_g0_2 c_g0_3 c_g0_4 c_g0_5 c_g0_6 c_g0_7
  refine ((unhide HHdK0) _ _ _ ((MK0 (1)).reads (unhide HO_g0)) (by omega) (by omega)).mono ?_
  rintro e w51 ⟨rfl, F52⟩
  have hs53 := hide (F52).size
  replace E := E.trans F52
  replace HB_p := hide ((F52).kept (unhide HB_p))
  replace HB_w0 := hide ((F52).kept (unhide HB_w0))
  replace HB_g0 := hide ((F52).kept (unhide HB_g0))
  replace HB_h0 := hide ((F52).kept (unhide HB_h0))
  replace HO_g0 := hide ((MK0 (1)).oext (unhide HO_g0) F52)
  replace HO_h0 := hide (K0.oext (unhide HO_h0) F52)
  replace HEw := hide ((unhide HEw).trans F52)
  go_wp2
  go_ret
  exact ⟨rfl, E.below⟩
end Go.Proofs.YtlnmpbdnmlpkiaaDoor
