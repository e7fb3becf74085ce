import Derived.Test.YtbieoijeilhadaaDoorKd
import Derived.Deep.RegionHeld3
import Derived.Test.YtbieoijeilhadaaDoorKR
import Derived.Test.YtbieoijeilhadaaDoorKysMark
namespace Go.Proofs.YtbieoijeilhadaaDoor
open Go.RowKit
set_option maxRecDepth 10000 in
set_option maxHeartbeats 8000000 in
theorem law_ReadKeys (p0_0a : Option Addr) (p0_0n : Nat) (p0_0c : Nat) (p0_1 : Bool) (p1_a : Option Addr) (p1_n : Nat) (p1_c : Nat) (w : World)
    (hlen1 : p1_n ≤ 1048576)
    (X0 : Kd) (MX0 : Int → Kd) (mX0 : Nat)
    (X1 : Kd) (MX1 : Int → Kd) (mX1 : Nat)
    (K0 : Kd) (MK0 : Int → Kd) (mK0 : Nat)
    (K1 : Kd) (MK1 : Int → Kd) (mK1 : Nat)
    (Fit : Prop)
    (HZ : Hid (∀ W, Ext w W → Calls Tryd.prog 13 #[.agg #[.slice p0_0a p0_0n p0_0c, .bool p0_1], .int .i64 1048576] W fun e w' => ∃ r : Int, e = .returned (.int .i64 r) ∧ (0 ≤ r → Fit) ∧ Ext W w'))
    (HTo0' : Hid (Fit → ∀ W, Ext w W → Calls Tryd.prog 14 #[.agg #[.slice p0_0a p0_0n p0_0c, .bool p0_1]] W fun e w' => ∃ u S, e = .returned u ∧ X0.O w' W.heap.size S u ∧ Ext W w'))
    (ShX0 : Hid (∀ W u, X0.R W u → ∃ (x0a : Option Addr) (x0n : Nat) (x0c : Nat) (x1 : Bool), u = .agg #[.slice x0a x0n x0c, .bool x1]))
    (HEqX0' : Hid (Fit → EqOk 16 X0)) (HMkX0' : Hid (Fit → MarkOk 19 X0 MX0 mX0 ∧ mX0 ≤ 17179869184))
    (HTo1' : Hid (Fit → ∀ W, Ext w W → Calls Tryd.prog 15 #[.slice p1_a p1_n p1_c] W fun e w' => ∃ u S, e = .returned u ∧ X1.O w' W.heap.size S u ∧ Ext W w'))
    (ShX1 : Hid (∀ W u, X1.R W u → ∃ (xa : Option Addr) (xn : Nat) (xc : Nat), u = .slice xa xn xc))
    (HEqX1' : Hid (Fit → EqOk 18 X1)) (HMkX1' : Hid (Fit → MarkOk 20 X1 MX1 mX1 ∧ mX1 ≤ 17179869184))
    (HS' : Hid (Fit → ∀ (W : World) (u0 : Value) (u1 : Value), Ext w W → X0.R W u0 → X1.R W u1 → Calls Tryd.prog 7 #[u0, u1] W fun e w' => ∃ v0 v1, e = .returned (.tuple #[v0, v1]) ∧ K0.R w' v0 ∧ K1.R w' v1 ∧ Ext W w'))
    (HI' : Hid (Fit → ∀ (W : World) (u0 : Value) (u1 : Value), Ext w W → X0.R W u0 → X1.R W u1 → Calls Tryd.prog 8 #[u0, u1] W fun e w' => ∃ v0 S0 v1 S1, e = .returned (.tuple #[v0, v1]) ∧ K0.O w' W.heap.size S0 v0 ∧ K1.O w' W.heap.size S1 v1 ∧ (∀ g, S0 g → ¬ S1 g) ∧ Ext W w'))
    (ShK0 : Hid (∀ W u, K0.R W u → ∃ (x0a : Option Addr) (x0n : Nat) (x0c : Nat) (x1 : Bool), u = .agg #[.slice x0a x0n x0c, .bool x1]))
    (HEqK0' : Hid (Fit → EqOk 16 K0)) (HMkK0' : Hid (Fit → MarkOk 19 K0 MK0 mK0 ∧ mK0 ≤ 17179869184)) (HHdK0' : Hid (Fit → HeldOk 22 MK0 mK0))
    (ShK1 : Hid (∀ W u, K1.R W u → ∃ (xa : Option Addr) (xn : Nat) (xc : Nat), u = .slice xa xn xc))
    (HEqK1' : Hid (Fit → EqOk 17 K1)) (HMkK1' : Hid (Fit → MarkOk 21 K1 MK1 mK1 ∧ mK1 ≤ 17179869184)) (HHdK1' : Hid (Fit → HeldOk 23 MK1 mK1))
    : Calls Tryd.prog 4 #[.agg #[.slice p0_0a p0_0n p0_0c, .bool p0_1], .slice p1_a p1_n p1_c] w fun e w' => e = .returned (.bool true) ∧ Below w.heap.size w w' := by
  have hlI1 : ¬ (1048576 : Int) < (p1_n : Int) := by omega
  go_enter Tryd.func4, Tryd.ntmps4
  go_wp2_with fail
  obtain ⟨W0, hW0⟩ : ∃ W0, W0 = w.alloc (.cells #[.slice p0_0a p0_0n p0_0c, .bool p0_1] 35) := ⟨_, rfl⟩
  rw [← hW0]
  have E : Ext w W0 := by rw [hW0]; exact (Ext.refl w).alloc _
  have HB_p : Hid (W0.heap[w.heap.size]? = some (.cells #[.slice p0_0a p0_0n p0_0c, .bool p0_1] 35 (0, 0))) := hide (by rw [hW0]; exact new_block w _)
  have hzW0 := hide (lt_of_block (unhide HB_p))
  clear hW0
  refine ((unhide HZ) _ E).mono ?_
  rintro e w1 ⟨r, rfl, hr, F1⟩
  have hs2 := hide (F1).size
  replace E := E.trans F1
  replace HB_p := hide ((F1).kept (unhide HB_p))
  by_cases hr0 : r < 0
  · go_wp2
    go_ret
    exact ⟨rfl, E.below⟩
  have hfit : Fit := hr (by omega)
  clear hr HZ
  have HTo0 := hide ((unhide HTo0') hfit)
  have HEqX0 := hide ((unhide HEqX0') hfit)
  have HMkX0 := hide ((unhide HMkX0') hfit).1
  have hmX0 := ((unhide HMkX0') hfit).2
  clear HMkX0'
  clear HTo0' HEqX0'
  have HTo1 := hide ((unhide HTo1') hfit)
  have HEqX1 := hide ((unhide HEqX1') hfit)
  have HMkX1 := hide ((unhide HMkX1') hfit).1
  have hmX1 := ((unhide HMkX1') hfit).2
  clear HMkX1'
  clear HTo1' HEqX1'
  have HEqK0 := hide ((unhide HEqK0') hfit)
  have HMkK0 := hide ((unhide HMkK0') hfit).1
  have hmK0 := ((unhide HMkK0') hfit).2
  have HHdK0 := hide ((unhide HHdK0') hfit)
  clear HEqK0' HMkK0' HHdK0'
  have HEqK1 := hide ((unhide HEqK1') hfit)
  have HMkK1 := hide ((unhide HMkK1') hfit).1
  have hmK1 := ((unhide HMkK1') hfit).2
  have HHdK1 := hide ((unhide HHdK1') hfit)
  clear HEqK1' HMkK1' HHdK1'
  have HS := hide ((unhide HS') hfit)
  have HI := hide ((unhide HI') hfit)
  clear HS' HI' hfit
  have c_p_0 : w1.cell? ⟨w.heap.size, 0, none⟩ = some (.slice p0_0a p0_0n p0_0c) := cells_of (unhide HB_p) 0 _ rfl
  have c_p_1 : w1.cell? ⟨w.heap.size, 1, none⟩ = some (.bool p0_1) := cells_of (unhide HB_p) 1 _ rfl
  go_wp2_with fail
  clear c_p_0 c_p_1
  refine ((unhide HTo0) _ E).mono ?_
  rintro e w3 ⟨ut0, St0, rfl, ot0, F4⟩
  have HL_t0 : Hid (∀ g, St0 g → w1.heap.size ≤ g ∧ g < w3.heap.size) := hide (X0.lt ot0)
  have hs5 := hide (F4).size
  replace E := E.trans F4
  replace HB_p := hide ((F4).kept (unhide HB_p))
  obtain ⟨t0_0a, t0_0n, t0_0c, t0_1, rfl⟩ := (unhide ShX0) _ _ (X0.reads ot0)
  have HO_t0 := hide ot0
  clear ot0
  have c_p_0 : w3.cell? ⟨w.heap.size, 0, none⟩ = some (.slice p0_0a p0_0n p0_0c) := cells_of (unhide HB_p) 0 _ rfl
  have c_p_1 : w3.cell? ⟨w.heap.size, 1, none⟩ = some (.bool p0_1) := cells_of (unhide HB_p) 1 _ rfl
  go_wp2_with fail
  clear c_p_0 c_p_1
  refine ((unhide HTo1) _ E).mono ?_
  rintro e w6 ⟨ut1, St1, rfl, ot1, F7⟩
  have HL_t1 : Hid (∀ g, St1 g → w3.heap.size ≤ g ∧ g < w6.heap.size) := hide (X1.lt ot1)
  have hs8 := hide (F7).size
  replace E := E.trans F7
  replace HB_p := hide ((F7).kept (unhide HB_p))
  replace HO_t0 := hide (X0.oext (unhide HO_t0) F7)
  obtain ⟨t1_a, t1_n, t1_c, rfl⟩ := (unhide ShX1) _ _ (X1.reads ot1)
  have HO_t1 := hide ot1
  clear ot1
  go_wp2_with fail
  refine ((unhide HS) _ _ _ E (X0.reads (unhide HO_t0)) (X1.reads (unhide HO_t1))).mono ?_
  rintro e w9 ⟨uw0, uw1, rfl, rw0, rw1, F10⟩
  have hs11 := hide (F10).size
  replace E := E.trans F10
  replace HB_p := hide ((F10).kept (unhide HB_p))
  replace HO_t0 := hide (X0.oext (unhide HO_t0) F10)
  replace HO_t1 := hide (X1.oext (unhide HO_t1) F10)
  obtain ⟨w0_0a, w0_0n, w0_0c, w0_1, rfl⟩ := (unhide ShK0) _ _ rw0
  have HR_w0 := hide rw0
  clear rw0
  obtain ⟨w1_a, w1_n, w1_c, rfl⟩ := (unhide ShK1) _ _ rw1
  have HR_w1 := hide rw1
  clear rw1
  have HEw := hide (Ext.refl w9)
  clear HO_t0
  clear HO_t1
  have c_p_0 : ∀ o0, (w9.alloc o0).cell? ⟨w.heap.size, 0, none⟩ = some (.slice p0_0a p0_0n p0_0c) := fun o0 => ((Ext.refl w9).alloc o0).cell (cells_of (unhide HB_p) 0 _ rfl)
  have c_p_1 : ∀ o0, (w9.alloc o0).cell? ⟨w.heap.size, 1, none⟩ = some (.bool p0_1) := fun o0 => ((Ext.refl w9).alloc o0).cell (cells_of (unhide HB_p) 1 _ rfl)
  go_wp2_with fail
  clear c_p_0 c_p_1
  obtain ⟨V12, hV12⟩ : ∃ V12, V12 = w9.alloc (.cells #[.slice w0_0a w0_0n w0_0c, .bool w0_1] 24) := ⟨_, rfl⟩
  rw [← hV12]
  have FV12 : Ext w9 V12 := by rw [hV12]; exact (Ext.refl w9).alloc _
  have HB_w0 : Hid (V12.heap[w9.heap.size]? = some (.cells #[.slice w0_0a w0_0n w0_0c, .bool w0_1] 24 (0, 0))) := hide (by rw [hV12]; exact new_block w9 _)
  have hzV12 := hide (lt_of_block (unhide HB_w0))
  clear hV12
  have hs13 := hide (FV12).size
  replace E := E.trans FV12
  replace HB_p := hide ((FV12).kept (unhide HB_p))
  replace HEw := hide ((unhide HEw).trans FV12)
  refine ((unhide HTo0) _ E).mono ?_
  rintro e w14 ⟨ux0, Sx0, rfl, ox0, F15⟩
  have HL_x0 : Hid (∀ g, Sx0 g → V12.heap.size ≤ g ∧ g < w14.heap.size) := hide (X0.lt ox0)
  have hs16 := hide (F15).size
  replace E := E.trans F15
  replace HB_p := hide ((F15).kept (unhide HB_p))
  replace HB_w0 := hide ((F15).kept (unhide HB_w0))
  replace HEw := hide ((unhide HEw).trans F15)
  obtain ⟨x0_0a, x0_0n, x0_0c, x0_1, rfl⟩ := (unhide ShX0) _ _ (X0.reads ox0)
  have HO_x0 := hide ox0
  clear ox0
  have c_p_0 : ∀ o0, (w14.alloc o0).cell? ⟨w.heap.size, 0, none⟩ = some (.slice p0_0a p0_0n p0_0c) := fun o0 => ((Ext.refl w14).alloc o0).cell (cells_of (unhide HB_p) 0 _ rfl)
  have c_p_1 : ∀ o0, (w14.alloc o0).cell? ⟨w.heap.size, 1, none⟩ = some (.bool p0_1) := fun o0 => ((Ext.refl w14).alloc o0).cell (cells_of (unhide HB_p) 1 _ rfl)
  go_wp2_with fail
  clear c_p_0 c_p_1
  obtain ⟨V17, hV17⟩ : ∃ V17, V17 = w14.alloc (.cells #[.slice x0_0a x0_0n x0_0c, .bool x0_1] 24) := ⟨_, rfl⟩
  rw [← hV17]
  have FV17 : Ext w14 V17 := by rw [hV17]; exact (Ext.refl w14).alloc _
  have HB_x0 : Hid (V17.heap[w14.heap.size]? = some (.cells #[.slice x0_0a x0_0n x0_0c, .bool x0_1] 24 (0, 0))) := hide (by rw [hV17]; exact new_block w14 _)
  have hzV17 := hide (lt_of_block (unhide HB_x0))
  clear hV17
  have hs18 := hide (FV17).size
  replace E := E.trans FV17
  replace HB_p := hide ((FV17).kept (unhide HB_p))
  replace HB_w0 := hide ((FV17).kept (unhide HB_w0))
  replace HO_x0 := hide (X0.oext (unhide HO_x0) FV17)
  replace HEw := hide ((unhide HEw).trans FV17)
  refine ((unhide HTo1) _ E).mono ?_
  rintro e w19 ⟨ux1, Sx1, rfl, ox1, F20⟩
  have HL_x1 : Hid (∀ g, Sx1 g → V17.heap.size ≤ g ∧ g < w19.heap.size) := hide (X1.lt ox1)
  have hs21 := hide (F20).size
  replace E := E.trans F20
  replace HB_p := hide ((F20).kept (unhide HB_p))
  replace HB_w0 := hide ((F20).kept (unhide HB_w0))
  replace HB_x0 := hide ((F20).kept (unhide HB_x0))
  replace HO_x0 := hide (X0.oext (unhide HO_x0) F20)
  replace HEw := hide ((unhide HEw).trans F20)
  obtain ⟨x1_a, x1_n, x1_c, rfl⟩ := (unhide ShX1) _ _ (X1.reads ox1)
  have HO_x1 := hide ox1
  clear ox1
  have c_x0_0 : w19.cell? ⟨w14.heap.size, 0, none⟩ = some (.slice x0_0a x0_0n x0_0c) := cells_of (unhide HB_x0) 0 _ rfl
  have c_x0_1 : w19.cell? ⟨w14.heap.size, 1, none⟩ = some (.bool x0_1) := cells_of (unhide HB_x0) 1 _ rfl
  go_wp2_with fail
  clear c_x0_0 c_x0_1
  refine ((unhide HI) _ _ _ E (X0.reads (unhide HO_x0)) (X1.reads (unhide HO_x1))).mono ?_
  rintro e w22 ⟨ug0, Sg0, ug1, Sg1, rfl, og0, og1, ag01, F23⟩
  have HL_g0 : Hid (∀ g, Sg0 g → w19.heap.size ≤ g ∧ g < w22.heap.size) := hide (K0.lt og0)
  have HL_g1 : Hid (∀ g, Sg1 g → w19.heap.size ≤ g ∧ g < w22.heap.size) := hide (K1.lt og1)
  have HD_g0_g1 := hide ag01
  clear ag01
  have hs24 := hide (F23).size
  replace E := E.trans F23
  replace HB_p := hide ((F23).kept (unhide HB_p))
  replace HB_w0 := hide ((F23).kept (unhide HB_w0))
  replace HB_x0 := hide ((F23).kept (unhide HB_x0))
  replace HO_x0 := hide (X0.oext (unhide HO_x0) F23)
  replace HO_x1 := hide (X1.oext (unhide HO_x1) F23)
  replace HEw := hide ((unhide HEw).trans F23)
  obtain ⟨g0_0a, g0_0n, g0_0c, g0_1, rfl⟩ := (unhide ShK0) _ _ (K0.reads og0)
  have HO_g0 := hide og0
  clear og0
  obtain ⟨g1_a, g1_n, g1_c, rfl⟩ := (unhide ShK1) _ _ (K1.reads og1)
  have HO_g1 := hide og1
  clear og1
  have c_w0_0 : ∀ o0, (w22.alloc o0).cell? ⟨w9.heap.size, 0, none⟩ = some (.slice w0_0a w0_0n w0_0c) := fun o0 => ((Ext.refl w22).alloc o0).cell (cells_of (unhide HB_w0) 0 _ rfl)
  have c_w0_1 : ∀ o0, (w22.alloc o0).cell? ⟨w9.heap.size, 1, none⟩ = some (.bool w0_1) := fun o0 => ((Ext.refl w22).alloc o0).cell (cells_of (unhide HB_w0) 1 _ rfl)
  go_wp2_with fail
  clear c_w0_0 c_w0_1
  obtain ⟨V25, hV25⟩ : ∃ V25, V25 = w22.alloc (.cells #[.slice g0_0a g0_0n g0_0c, .bool g0_1] 24) := ⟨_, rfl⟩
  rw [← hV25]
  have FV25 : Ext w22 V25 := by rw [hV25]; exact (Ext.refl w22).alloc _
  have HB_g0 : Hid (V25.heap[w22.heap.size]? = some (.cells #[.slice g0_0a g0_0n g0_0c, .bool g0_1] 24 (0, 0))) := hide (by rw [hV25]; exact new_block w22 _)
  have hzV25 := hide (lt_of_block (unhide HB_g0))
  clear hV25
  have hs26 := hide (FV25).size
  replace E := E.trans FV25
  replace HB_p := hide ((FV25).kept (unhide HB_p))
  replace HB_w0 := hide ((FV25).kept (unhide HB_w0))
  replace HB_x0 := hide ((FV25).kept (unhide HB_x0))
  replace HO_x0 := hide (X0.oext (unhide HO_x0) FV25)
  replace HO_x1 := hide (X1.oext (unhide HO_x1) FV25)
  replace HO_g0 := hide (K0.oext (unhide HO_g0) FV25)
  replace HO_g1 := hide (K1.oext (unhide HO_g1) FV25)
  replace HEw := hide ((unhide HEw).trans FV25)
  refine ((unhide HEqK0) _ _ _ (K0.reads (unhide HO_g0)) (K0.rext (unhide HR_w0) (unhide HEw))).mono ?_
  rintro e w27 ⟨rfl, F28⟩
  have hs29 := hide (F28).size
  replace E := E.trans F28
  replace HB_p := hide ((F28).kept (unhide HB_p))
  replace HB_w0 := hide ((F28).kept (unhide HB_w0))
  replace HB_x0 := hide ((F28).kept (unhide HB_x0))
  replace HB_g0 := hide ((F28).kept (unhide HB_g0))
  replace HO_x0 := hide (X0.oext (unhide HO_x0) F28)
  replace HO_x1 := hide (X1.oext (unhide HO_x1) F28)
  replace HO_g0 := hide (K0.oext (unhide HO_g0) F28)
  replace HO_g1 := hide (K1.oext (unhide HO_g1) F28)
  replace HEw := hide ((unhide HEw).trans F28)
  have c_g0_0 : w27.cell? ⟨w22.heap.size, 0, none⟩ = some (.slice g0_0a g0_0n g0_0c) := cells_of (unhide HB_g0) 0 _ rfl
  have c_g0_1 : w27.cell? ⟨w22.heap.size, 1, none⟩ = some (.bool g0_1) := cells_of (unhide HB_g0) 1 _ rfl
  have c_w0_0 : w27.cell? ⟨w9.heap.size, 0, none⟩ = some (.slice w0_0a w0_0n w0_0c) := cells_of (unhide HB_w0) 0 _ rfl
  have c_w0_1 : w27.cell? ⟨w9.heap.size, 1, none⟩ = some (.bool w0_1) := cells_of (unhide HB_w0) 1 _ rfl
  go_wp2_with fail
  clear c_g0_0 c_g0_1 c_w0_0 c_w0_1
  refine ((unhide HEqK1) _ _ _ (K1.reads (unhide HO_g1)) (K1.rext (unhide HR_w1) (unhide HEw))).mono ?_
  rintro e w30 ⟨rfl, F31⟩
  have hs32 := hide (F31).size
  replace E := E.trans F31
  replace HB_p := hide ((F31).kept (unhide HB_p))
  replace HB_w0 := hide ((F31).kept (unhide HB_w0))
  replace HB_x0 := hide ((F31).kept (unhide HB_x0))
  replace HB_g0 := hide ((F31).kept (unhide HB_g0))
  replace HO_x0 := hide (X0.oext (unhide HO_x0) F31)
  replace HO_x1 := hide (X1.oext (unhide HO_x1) F31)
  replace HO_g0 := hide (K0.oext (unhide HO_g0) F31)
  replace HO_g1 := hide (K1.oext (unhide HO_g1) F31)
  replace HEw := hide ((unhide HEw).trans F31)
  have c_x0_0 : w30.cell? ⟨w14.heap.size, 0, none⟩ = some (.slice x0_0a x0_0n x0_0c) := cells_of (unhide HB_x0) 0 _ rfl
  have c_x0_1 : w30.cell? ⟨w14.heap.size, 1, none⟩ = some (.bool x0_1) := cells_of (unhide HB_x0) 1 _ rfl
  have c_p_0 : w30.cell? ⟨w.heap.size, 0, none⟩ = some (.slice p0_0a p0_0n p0_0c) := cells_of (unhide HB_p) 0 _ rfl
  have c_p_1 : w30.cell? ⟨w.heap.size, 1, none⟩ = some (.bool p0_1) := cells_of (unhide HB_p) 1 _ rfl
  go_wp2
  have HTt := hide (fun U (hU : Ext w30 U) => (unhide HTo0) U (E.trans hU))
  go_region_held3 (fun W => W.cell? ⟨w14.heap.size, 0, none⟩ = some (.slice x0_0a x0_0n x0_0c) ∧ W.cell? ⟨w14.heap.size, 1, none⟩ = some (.bool x0_1) ∧ W.cell? ⟨w.heap.size, 0, none⟩ = some (.slice p0_0a p0_0n p0_0c) ∧ W.cell? ⟨w.heap.size, 1, none⟩ = some (.bool p0_1)) (first | exact ⟨c_x0_0, c_x0_1, c_p_0, c_p_1⟩ | exact ⟨he'.cell c_x0_0, he'.cell c_x0_1, he'.cell c_p_0, he'.cell c_p_1⟩)
    (first
      | (go_at_call 14; refine ((unhide HTt) _ (Ext.refl w30).drew).mono ?_; rintro e w33 ⟨uT, ST, rfl, oT, FT⟩; have he' := (Ext.refl w30).drew.trans FT; obtain ⟨yx0a, yx0n, yx0c, yx1, rfl⟩ := (unhide ShX0) _ _ (X0.reads oT); have RT := hide (X0.reads oT); clear oT FT)
      | (go_at_call 16; refine ((unhide HEqX0) _ _ _ (X0.rext (X0.reads (unhide HO_x0)) he') (unhide RT)).mono ?_; rintro e w34 ⟨rfl, FE⟩; have he' := he'.trans FE; clear FE))
  clear HTt RT c_x0_0 c_x0_1 c_p_0 c_p_1
  have F35 := he'
  clear he'
  have hs36 := hide (F35).size
  replace E := E.trans F35
  replace HB_p := hide ((F35).kept (unhide HB_p))
  replace HB_w0 := hide ((F35).kept (unhide HB_w0))
  replace HB_x0 := hide ((F35).kept (unhide HB_x0))
  replace HB_g0 := hide ((F35).kept (unhide HB_g0))
  replace HO_x0 := hide (X0.oext (unhide HO_x0) F35)
  replace HO_x1 := hide (X1.oext (unhide HO_x1) F35)
  replace HO_g0 := hide (K0.oext (unhide HO_g0) F35)
  replace HO_g1 := hide (K1.oext (unhide HO_g1) F35)
  replace HEw := hide ((unhide HEw).trans F35)
  go_wp2_with fail
  refine ((unhide HTo1) _ E).mono ?_
  rintro e w37 ⟨ut1, St1, rfl, ot1, F38⟩
  have HL_t1 : Hid (∀ g, St1 g → w34.heap.size ≤ g ∧ g < w37.heap.size) := hide (X1.lt ot1)
  have hs39 := hide (F38).size
  replace E := E.trans F38
  replace HB_p := hide ((F38).kept (unhide HB_p))
  replace HB_w0 := hide ((F38).kept (unhide HB_w0))
  replace HB_x0 := hide ((F38).kept (unhide HB_x0))
  replace HB_g0 := hide ((F38).kept (unhide HB_g0))
  replace HO_x0 := hide (X0.oext (unhide HO_x0) F38)
  replace HO_x1 := hide (X1.oext (unhide HO_x1) F38)
  replace HO_g0 := hide (K0.oext (unhide HO_g0) F38)
  replace HO_g1 := hide (K1.oext (unhide HO_g1) F38)
  replace HEw := hide ((unhide HEw).trans F38)
  obtain ⟨t1_a, t1_n, t1_c, rfl⟩ := (unhide ShX1) _ _ (X1.reads ot1)
  have HO_t1 := hide ot1
  clear ot1
  go_wp2_with fail
  refine ((unhide HEqX1) _ _ _ (X1.reads (unhide HO_x1)) (X1.reads (unhide HO_t1))).mono ?_
  rintro e w40 ⟨rfl, F41⟩
  have hs42 := hide (F41).size
  replace E := E.trans F41
  replace HB_p := hide ((F41).kept (unhide HB_p))
  replace HB_w0 := hide ((F41).kept (unhide HB_w0))
  replace HB_x0 := hide ((F41).kept (unhide HB_x0))
  replace HB_g0 := hide ((F41).kept (unhide HB_g0))
  replace HO_x0 := hide (X0.oext (unhide HO_x0) F41)
  replace HO_x1 := hide (X1.oext (unhide HO_x1) F41)
  replace HO_g0 := hide (K0.oext (unhide HO_g0) F41)
  replace HO_g1 := hide (K1.oext (unhide HO_g1) F41)
  replace HO_t1 := hide (X1.oext (unhide HO_t1) F41)
  replace HEw := hide ((unhide HEw).trans F41)
  clear HO_t1
  have c_x0_0 : w40.cell? ⟨w14.heap.size, 0, none⟩ = some (.slice x0_0a x0_0n x0_0c) := cells_of (unhide HB_x0) 0 _ rfl
  have c_x0_1 : w40.cell? ⟨w14.heap.size, 1, none⟩ = some (.bool x0_1) := cells_of (unhide HB_x0) 1 _ rfl
  go_wp2_with fail
  clear c_x0_0 c_x0_1
  refine ((unhide HMkX0) _ _ _ _ _ (unhide HO_x0) (by omega) (by omega)).mono ?_
  rintro e w43 ⟨rfl, om, F44⟩
  replace E := F44.ext E (fun _ h9 => by have b9 := (unhide HL_x0) _ h9; have z0 := unhide hzW0; have z1 := unhide hs2; have z2 := unhide hs5; have z3 := unhide hs8; have z4 := unhide hs11; have z5 := unhide hzV12; have z6 := unhide hs13; have z7 := unhide hs16; have z8 := unhide hzV17; have z9 := unhide hs18; have z10 := unhide hs21; have z11 := unhide hs24; have z12 := unhide hzV25; have z13 := unhide hs26; have z14 := unhide hs29; have z15 := unhide hs32; have z16 := unhide hs36; have z17 := unhide hs39; have z18 := unhide hs42; omega)
  replace HEw := hide (F44.ext (unhide HEw) (fun _ h9 => by have b9 := (unhide HL_x0) _ h9; have z0 := unhide hzW0; have z1 := unhide hs2; have z2 := unhide hs5; have z3 := unhide hs8; have z4 := unhide hs11; have z5 := unhide hzV12; have z6 := unhide hs13; have z7 := unhide hs16; have z8 := unhide hzV17; have z9 := unhide hs18; have z10 := unhide hs21; have z11 := unhide hs24; have z12 := unhide hzV25; have z13 := unhide hs26; have z14 := unhide hs29; have z15 := unhide hs32; have z16 := unhide hs36; have z17 := unhide hs39; have z18 := unhide hs42; omega))
  replace HB_p := hide (F44.kept (unhide HB_p) (fun h9 => by have b9 := (unhide HL_x0) _ h9; have z0 := unhide hzW0; have z1 := unhide hs2; have z2 := unhide hs5; have z3 := unhide hs8; have z4 := unhide hs11; have z5 := unhide hzV12; have z6 := unhide hs13; have z7 := unhide hs16; have z8 := unhide hzV17; have z9 := unhide hs18; have z10 := unhide hs21; have z11 := unhide hs24; have z12 := unhide hzV25; have z13 := unhide hs26; have z14 := unhide hs29; have z15 := unhide hs32; have z16 := unhide hs36; have z17 := unhide hs39; have z18 := unhide hs42; omega))
  replace HB_w0 := hide (F44.kept (unhide HB_w0) (fun h9 => by have b9 := (unhide HL_x0) _ h9; have z0 := unhide hzW0; have z1 := unhide hs2; have z2 := unhide hs5; have z3 := unhide hs8; have z4 := unhide hs11; have z5 := unhide hzV12; have z6 := unhide hs13; have z7 := unhide hs16; have z8 := unhide hzV17; have z9 := unhide hs18; have z10 := unhide hs21; have z11 := unhide hs24; have z12 := unhide hzV25; have z13 := unhide hs26; have z14 := unhide hs29; have z15 := unhide hs32; have z16 := unhide hs36; have z17 := unhide hs39; have z18 := unhide hs42; omega))
  replace HB_x0 := hide (F44.kept (unhide HB_x0) (fun h9 => by have b9 := (unhide HL_x0) _ h9; have z0 := unhide hzW0; have z1 := unhide hs2; have z2 := unhide hs5; have z3 := unhide hs8; have z4 := unhide hs11; have z5 := unhide hzV12; have z6 := unhide hs13; have z7 := unhide hs16; have z8 := unhide hzV17; have z9 := unhide hs18; have z10 := unhide hs21; have z11 := unhide hs24; have z12 := unhide hzV25; have z13 := unhide hs26; have z14 := unhide hs29; have z15 := unhide hs32; have z16 := unhide hs36; have z17 := unhide hs39; have z18 := unhide hs42; omega))
  replace HB_g0 := hide (F44.kept (unhide HB_g0) (fun h9 => by have b9 := (unhide HL_x0) _ h9; have z0 := unhide hzW0; have z1 := unhide hs2; have z2 := unhide hs5; have z3 := unhide hs8; have z4 := unhide hs11; have z5 := unhide hzV12; have z6 := unhide hs13; have z7 := unhide hs16; have z8 := unhide hzV17; have z9 := unhide hs18; have z10 := unhide hs21; have z11 := unhide hs24; have z12 := unhide hzV25; have z13 := unhide hs26; have z14 := unhide hs29; have z15 := unhide hs32; have z16 := unhide hs36; have z17 := unhide hs39; have z18 := unhide hs42; omega))
  replace HO_x1 := hide (X1.ofr (unhide HO_x1) F44 (fun q9 h8 h9 => by have b8 := (unhide HL_x1) q9 h8; have b9 := (unhide HL_x0) q9 h9; have z0 := unhide hzW0; have z1 := unhide hs2; have z2 := unhide hs5; have z3 := unhide hs8; have z4 := unhide hs11; have z5 := unhide hzV12; have z6 := unhide hs13; have z7 := unhide hs16; have z8 := unhide hzV17; have z9 := unhide hs18; have z10 := unhide hs21; have z11 := unhide hs24; have z12 := unhide hzV25; have z13 := unhide hs26; have z14 := unhide hs29; have z15 := unhide hs32; have z16 := unhide hs36; have z17 := unhide hs39; have z18 := unhide hs42; omega))
  replace HO_g0 := hide (K0.ofr (unhide HO_g0) F44 (fun q9 h8 h9 => by have b8 := (unhide HL_g0) q9 h8; have b9 := (unhide HL_x0) q9 h9; have z0 := unhide hzW0; have z1 := unhide hs2; have z2 := unhide hs5; have z3 := unhide hs8; have z4 := unhide hs11; have z5 := unhide hzV12; have z6 := unhide hs13; have z7 := unhide hs16; have z8 := unhide hzV17; have z9 := unhide hs18; have z10 := unhide hs21; have z11 := unhide hs24; have z12 := unhide hzV25; have z13 := unhide hs26; have z14 := unhide hs29; have z15 := unhide hs32; have z16 := unhide hs36; have z17 := unhide hs39; have z18 := unhide hs42; omega))
  replace HO_g1 := hide (K1.ofr (unhide HO_g1) F44 (fun q9 h8 h9 => by have b8 := (unhide HL_g1) q9 h8; have b9 := (unhide HL_x0) q9 h9; have z0 := unhide hzW0; have z1 := unhide hs2; have z2 := unhide hs5; have z3 := unhide hs8; have z4 := unhide hs11; have z5 := unhide hzV12; have z6 := unhide hs13; have z7 := unhide hs16; have z8 := unhide hzV17; have z9 := unhide hs18; have z10 := unhide hs21; have z11 := unhide hs24; have z12 := unhide hzV25; have z13 := unhide hs26; have z14 := unhide hs29; have z15 := unhide hs32; have z16 := unhide hs36; have z17 := unhide hs39; have z18 := unhide hs42; omega))
  have hs45 := hide F44.size
  replace HO_x0 := hide om
  clear om
  go_wp2_with fail
  refine ((unhide HMkX1) _ _ _ _ _ (unhide HO_x1) (by omega) (by omega)).mono ?_
  rintro e w46 ⟨rfl, om, F47⟩
  replace E := F47.ext E (fun _ h9 => by have b9 := (unhide HL_x1) _ h9; have z0 := unhide hzW0; have z1 := unhide hs2; have z2 := unhide hs5; have z3 := unhide hs8; have z4 := unhide hs11; have z5 := unhide hzV12; have z6 := unhide hs13; have z7 := unhide hs16; have z8 := unhide hzV17; have z9 := unhide hs18; have z10 := unhide hs21; have z11 := unhide hs24; have z12 := unhide hzV25; have z13 := unhide hs26; have z14 := unhide hs29; have z15 := unhide hs32; have z16 := unhide hs36; have z17 := unhide hs39; have z18 := unhide hs42; have z19 := unhide hs45; omega)
  replace HEw := hide (F47.ext (unhide HEw) (fun _ h9 => by have b9 := (unhide HL_x1) _ h9; have z0 := unhide hzW0; have z1 := unhide hs2; have z2 := unhide hs5; have z3 := unhide hs8; have z4 := unhide hs11; have z5 := unhide hzV12; have z6 := unhide hs13; have z7 := unhide hs16; have z8 := unhide hzV17; have z9 := unhide hs18; have z10 := unhide hs21; have z11 := unhide hs24; have z12 := unhide hzV25; have z13 := unhide hs26; have z14 := unhide hs29; have z15 := unhide hs32; have z16 := unhide hs36; have z17 := unhide hs39; have z18 := unhide hs42; have z19 := unhide hs45; omega))
  replace HB_p := hide (F47.kept (unhide HB_p) (fun h9 => by have b9 := (unhide HL_x1) _ h9; have z0 := unhide hzW0; have z1 := unhide hs2; have z2 := unhide hs5; have z3 := unhide hs8; have z4 := unhide hs11; have z5 := unhide hzV12; have z6 := unhide hs13; have z7 := unhide hs16; have z8 := unhide hzV17; have z9 := unhide hs18; have z10 := unhide hs21; have z11 := unhide hs24; have z12 := unhide hzV25; have z13 := unhide hs26; have z14 := unhide hs29; have z15 := unhide hs32; have z16 := unhide hs36; have z17 := unhide hs39; have z18 := unhide hs42; have z19 := unhide hs45; omega))
  replace HB_w0 := hide (F47.kept (unhide HB_w0) (fun h9 => by have b9 := (unhide HL_x1) _ h9; have z0 := unhide hzW0; have z1 := unhide hs2; have z2 := unhide hs5; have z3 := unhide hs8; have z4 := unhide hs11; have z5 := unhide hzV12; have z6 := unhide hs13; have z7 := unhide hs16; have z8 := unhide hzV17; have z9 := unhide hs18; have z10 := unhide hs21; have z11 := unhide hs24; have z12 := unhide hzV25; have z13 := unhide hs26; have z14 := unhide hs29; have z15 := unhide hs32; have z16 := unhide hs36; have z17 := unhide hs39; have z18 := unhide hs42; have z19 := unhide hs45; omega))
  replace HB_x0 := hide (F47.kept (unhide HB_x0) (fun h9 => by have b9 := (unhide HL_x1) _ h9; have z0 := unhide hzW0; have z1 := unhide hs2; have z2 := unhide hs5; have z3 := unhide hs8; have z4 := unhide hs11; have z5 := unhide hzV12; have z6 := unhide hs13; have z7 := unhide hs16; have z8 := unhide hzV17; have z9 := unhide hs18; have z10 := unhide hs21; have z11 := unhide hs24; have z12 := unhide hzV25; have z13 := unhide hs26; have z14 := unhide hs29; have z15 := unhide hs32; have z16 := unhide hs36; have z17 := unhide hs39; have z18 := unhide hs42; have z19 := unhide hs45; omega))
  replace HB_g0 := hide (F47.kept (unhide HB_g0) (fun h9 => by have b9 := (unhide HL_x1) _ h9; have z0 := unhide hzW0; have z1 := unhide hs2; have z2 := unhide hs5; have z3 := unhide hs8; have z4 := unhide hs11; have z5 := unhide hzV12; have z6 := unhide hs13; have z7 := unhide hs16; have z8 := unhide hzV17; have z9 := unhide hs18; have z10 := unhide hs21; have z11 := unhide hs24; have z12 := unhide hzV25; have z13 := unhide hs26; have z14 := unhide hs29; have z15 := unhide hs32; have z16 := unhide hs36; have z17 := unhide hs39; have z18 := unhide hs42; have z19 := unhide hs45; omega))
  replace HO_x0 := hide ((MX0 (1)).ofr (unhide HO_x0) F47 (fun q9 h8 h9 => by have b8 := (unhide HL_x0) q9 h8; have b9 := (unhide HL_x1) q9 h9; have z0 := unhide hzW0; have z1 := unhide hs2; have z2 := unhide hs5; have z3 := unhide hs8; have z4 := unhide hs11; have z5 := unhide hzV12; have z6 := unhide hs13; have z7 := unhide hs16; have z8 := unhide hzV17; have z9 := unhide hs18; have z10 := unhide hs21; have z11 := unhide hs24; have z12 := unhide hzV25; have z13 := unhide hs26; have z14 := unhide hs29; have z15 := unhide hs32; have z16 := unhide hs36; have z17 := unhide hs39; have z18 := unhide hs42; have z19 := unhide hs45; omega))
  replace HO_g0 := hide (K0.ofr (unhide HO_g0) F47 (fun q9 h8 h9 => by have b8 := (unhide HL_g0) q9 h8; have b9 := (unhide HL_x1) q9 h9; have z0 := unhide hzW0; have z1 := unhide hs2; have z2 := unhide hs5; have z3 := unhide hs8; have z4 := unhide hs11; have z5 := unhide hzV12; have z6 := unhide hs13; have z7 := unhide hs16; have z8 := unhide hzV17; have z9 := unhide hs18; have z10 := unhide hs21; have z11 := unhide hs24; have z12 := unhide hzV25; have z13 := unhide hs26; have z14 := unhide hs29; have z15 := unhide hs32; have z16 := unhide hs36; have z17 := unhide hs39; have z18 := unhide hs42; have z19 := unhide hs45; omega))
  replace HO_g1 := hide (K1.ofr (unhide HO_g1) F47 (fun q9 h8 h9 => by have b8 := (unhide HL_g1) q9 h8; have b9 := (unhide HL_x1) q9 h9; have z0 := unhide hzW0; have z1 := unhide hs2; have z2 := unhide hs5; have z3 := unhide hs8; have z4 := unhide hs11; have z5 := unhide hzV12; have z6 := unhide hs13; have z7 := unhide hs16; have z8 := unhide hzV17; have z9 := unhide hs18; have z10 := unhide hs21; have z11 := unhide hs24; have z12 := unhide hzV25; have z13 := unhide hs26; have z14 := unhide hs29; have z15 := unhide hs32; have z16 := unhide hs36; have z17 := unhide hs39; have z18 := unhide hs42; have z19 := unhide hs45; omega))
  have hs48 := hide F47.size
  replace HO_x1 := hide om
  clear om
  have hkk : ¬ (1 + (mX0 : Int) + (mX1 : Int) : Int) < 0 := by omega
  clear HO_x0
  clear HO_x1
  clear HB_x0
  have c_g0_0 : w46.cell? ⟨w22.heap.size, 0, none⟩ = some (.slice g0_0a g0_0n g0_0c) := cells_of (unhide HB_g0) 0 _ rfl
  have c_g0_1 : w46.cell? ⟨w22.heap.size, 1, none⟩ = some (.bool g0_1) := cells_of (unhide HB_g0) 1 _ rfl
  have c_w0_0 : w46.cell? ⟨w9.heap.size, 0, none⟩ = some (.slice w0_0a w0_0n w0_0c) := cells_of (unhide HB_w0) 0 _ rfl
  have c_w0_1 : w46.cell? ⟨w9.heap.size, 1, none⟩ = some (.bool w0_1) := cells_of (unhide HB_w0) 1 _ rfl
  go_wp2_with fail
  clear c_g0_0 c_g0_1 c_w0_0 c_w0_1
  refine ((unhide HEqK0) _ _ _ (K0.reads (unhide HO_g0)) (K0.rext (unhide HR_w0) (unhide HEw))).mono ?_
  rintro e w49 ⟨rfl, F50⟩
  have hs51 := hide (F50).size
  replace E := E.trans F50
  replace HB_p := hide ((F50).kept (unhide HB_p))
  replace HB_w0 := hide ((F50).kept (unhide HB_w0))
  replace HB_g0 := hide ((F50).kept (unhide HB_g0))
  replace HO_g0 := hide (K0.oext (unhide HO_g0) F50)
  replace HO_g1 := hide (K1.oext (unhide HO_g1) F50)
  replace HEw := hide ((unhide HEw).trans F50)
  have c_g0_0 : w49.cell? ⟨w22.heap.size, 0, none⟩ = some (.slice g0_0a g0_0n g0_0c) := cells_of (unhide HB_g0) 0 _ rfl
  have c_g0_1 : w49.cell? ⟨w22.heap.size, 1, none⟩ = some (.bool g0_1) := cells_of (unhide HB_g0) 1 _ rfl
  have c_w0_0 : w49.cell? ⟨w9.heap.size, 0, none⟩ = some (.slice w0_0a w0_0n w0_0c) := cells_of (unhide HB_w0) 0 _ rfl
  have c_w0_1 : w49.cell? ⟨w9.heap.size, 1, none⟩ = some (.bool w0_1) := cells_of (unhide HB_w0) 1 _ rfl
  go_wp2_with fail
  clear c_g0_0 c_g0_1 c_w0_0 c_w0_1
  refine ((unhide HEqK1) _ _ _ (K1.reads (unhide HO_g1)) (K1.rext (unhide HR_w1) (unhide HEw))).mono ?_
  rintro e w52 ⟨rfl, F53⟩
  have hs54 := hide (F53).size
  replace E := E.trans F53
  replace HB_p := hide ((F53).kept (unhide HB_p))
  replace HB_w0 := hide ((F53).kept (unhide HB_w0))
  replace HB_g0 := hide ((F53).kept (unhide HB_g0))
  replace HO_g0 := hide (K0.oext (unhide HO_g0) F53)
  replace HO_g1 := hide (K1.oext (unhide HO_g1) F53)
  replace HEw := hide ((unhide HEw).trans F53)
  have c_g0_0 : w52.cell? ⟨w22.heap.size, 0, none⟩ = some (.slice g0_0a g0_0n g0_0c) := cells_of (unhide HB_g0) 0 _ rfl
  have c_g0_1 : w52.cell? ⟨w22.heap.size, 1, none⟩ = some (.bool g0_1) := cells_of (unhide HB_g0) 1 _ rfl
  go_wp2_with fail
  clear c_g0_0 c_g0_1
  refine ((unhide HMkK0) _ _ _ _ _ (unhide HO_g0) (by omega) (by omega)).mono ?_
  rintro e w55 ⟨rfl, om, F56⟩
  replace E := F56.ext E (fun _ h9 => by have b9 := (unhide HL_g0) _ h9; have z0 := unhide hzW0; have z1 := unhide hs2; have z2 := unhide hs5; have z3 := unhide hs8; have z4 := unhide hs11; have z5 := unhide hzV12; have z6 := unhide hs13; have z7 := unhide hs16; have z8 := unhide hzV17; have z9 := unhide hs18; have z10 := unhide hs21; have z11 := unhide hs24; have z12 := unhide hzV25; have z13 := unhide hs26; have z14 := unhide hs29; have z15 := unhide hs32; have z16 := unhide hs36; have z17 := unhide hs39; have z18 := unhide hs42; have z19 := unhide hs45; have z20 := unhide hs48; have z21 := unhide hs51; have z22 := unhide hs54; omega)
  replace HEw := hide (F56.ext (unhide HEw) (fun _ h9 => by have b9 := (unhide HL_g0) _ h9; have z0 := unhide hzW0; have z1 := unhide hs2; have z2 := unhide hs5; have z3 := unhide hs8; have z4 := unhide hs11; have z5 := unhide hzV12; have z6 := unhide hs13; have z7 := unhide hs16; have z8 := unhide hzV17; have z9 := unhide hs18; have z10 := unhide hs21; have z11 := unhide hs24; have z12 := unhide hzV25; have z13 := unhide hs26; have z14 := unhide hs29; have z15 := unhide hs32; have z16 := unhide hs36; have z17 := unhide hs39; have z18 := unhide hs42; have z19 := unhide hs45; have z20 := unhide hs48; have z21 := unhide hs51; have z22 := unhide hs54; omega))
  replace HB_p := hide (F56.kept (unhide HB_p) (fun h9 => by have b9 := (unhide HL_g0) _ h9; have z0 := unhide hzW0; have z1 := unhide hs2; have z2 := unhide hs5; have z3 := unhide hs8; have z4 := unhide hs11; have z5 := unhide hzV12; have z6 := unhide hs13; have z7 := unhide hs16; have z8 := unhide hzV17; have z9 := unhide hs18; have z10 := unhide hs21; have z11 := unhide hs24; have z12 := unhide hzV25; have z13 := unhide hs26; have z14 := unhide hs29; have z15 := unhide hs32; have z16 := unhide hs36; have z17 := unhide hs39; have z18 := unhide hs42; have z19 := unhide hs45; have z20 := unhide hs48; have z21 := unhide hs51; have z22 := unhide hs54; omega))
  replace HB_w0 := hide (F56.kept (unhide HB_w0) (fun h9 => by have b9 := (unhide HL_g0) _ h9; have z0 := unhide hzW0; have z1 := unhide hs2; have z2 := unhide hs5; have z3 := unhide hs8; have z4 := unhide hs11; have z5 := unhide hzV12; have z6 := unhide hs13; have z7 := unhide hs16; have z8 := unhide hzV17; have z9 := unhide hs18; have z10 := unhide hs21; have z11 := unhide hs24; have z12 := unhide hzV25; have z13 := unhide hs26; have z14 := unhide hs29; have z15 := unhide hs32; have z16 := unhide hs36; have z17 := unhide hs39; have z18 := unhide hs42; have z19 := unhide hs45; have z20 := unhide hs48; have z21 := unhide hs51; have z22 := unhide hs54; omega))
  replace HB_g0 := hide (F56.kept (unhide HB_g0) (fun h9 => by have b9 := (unhide HL_g0) _ h9; have z0 := unhide hzW0; have z1 := unhide hs2; have z2 := unhide hs5; have z3 := unhide hs8; have z4 := unhide hs11; have z5 := unhide hzV12; have z6 := unhide hs13; have z7 := unhide hs16; have z8 := unhide hzV17; have z9 := unhide hs18; have z10 := unhide hs21; have z11 := unhide hs24; have z12 := unhide hzV25; have z13 := unhide hs26; have z14 := unhide hs29; have z15 := unhide hs32; have z16 := unhide hs36; have z17 := unhide hs39; have z18 := unhide hs42; have z19 := unhide hs45; have z20 := unhide hs48; have z21 := unhide hs51; have z22 := unhide hs54; omega))
  replace HO_g1 := hide (K1.ofr (unhide HO_g1) F56 (fun q9 h8 h9 => (unhide HD_g0_g1) q9 h9 h8))
  have hs57 := hide F56.size
  replace HO_g0 := hide om
  clear om
  go_wp2_with fail
  refine ((unhide HMkK1) _ _ _ _ _ (unhide HO_g1) (by omega) (by omega)).mono ?_
  rintro e w58 ⟨rfl, om, F59⟩
  replace E := F59.ext E (fun _ h9 => by have b9 := (unhide HL_g1) _ h9; have z0 := unhide hzW0; have z1 := unhide hs2; have z2 := unhide hs5; have z3 := unhide hs8; have z4 := unhide hs11; have z5 := unhide hzV12; have z6 := unhide hs13; have z7 := unhide hs16; have z8 := unhide hzV17; have z9 := unhide hs18; have z10 := unhide hs21; have z11 := unhide hs24; have z12 := unhide hzV25; have z13 := unhide hs26; have z14 := unhide hs29; have z15 := unhide hs32; have z16 := unhide hs36; have z17 := unhide hs39; have z18 := unhide hs42; have z19 := unhide hs45; have z20 := unhide hs48; have z21 := unhide hs51; have z22 := unhide hs54; have z23 := unhide hs57; omega)
  replace HEw := hide (F59.ext (unhide HEw) (fun _ h9 => by have b9 := (unhide HL_g1) _ h9; have z0 := unhide hzW0; have z1 := unhide hs2; have z2 := unhide hs5; have z3 := unhide hs8; have z4 := unhide hs11; have z5 := unhide hzV12; have z6 := unhide hs13; have z7 := unhide hs16; have z8 := unhide hzV17; have z9 := unhide hs18; have z10 := unhide hs21; have z11 := unhide hs24; have z12 := unhide hzV25; have z13 := unhide hs26; have z14 := unhide hs29; have z15 := unhide hs32; have z16 := unhide hs36; have z17 := unhide hs39; have z18 := unhide hs42; have z19 := unhide hs45; have z20 := unhide hs48; have z21 := unhide hs51; have z22 := unhide hs54; have z23 := unhide hs57; omega))
  replace HB_p := hide (F59.kept (unhide HB_p) (fun h9 => by have b9 := (unhide HL_g1) _ h9; have z0 := unhide hzW0; have z1 := unhide hs2; have z2 := unhide hs5; have z3 := unhide hs8; have z4 := unhide hs11; have z5 := unhide hzV12; have z6 := unhide hs13; have z7 := unhide hs16; have z8 := unhide hzV17; have z9 := unhide hs18; have z10 := unhide hs21; have z11 := unhide hs24; have z12 := unhide hzV25; have z13 := unhide hs26; have z14 := unhide hs29; have z15 := unhide hs32; have z16 := unhide hs36; have z17 := unhide hs39; have z18 := unhide hs42; have z19 := unhide hs45; have z20 := unhide hs48; have z21 := unhide hs51; have z22 := unhide hs54; have z23 := unhide hs57; omega))
  replace HB_w0 := hide (F59.kept (unhide HB_w0) (fun h9 => by have b9 := (unhide HL_g1) _ h9; have z0 := unhide hzW0; have z1 := unhide hs2; have z2 := unhide hs5; have z3 := unhide hs8; have z4 := unhide hs11; have z5 := unhide hzV12; have z6 := unhide hs13; have z7 := unhide hs16; have z8 := unhide hzV17; have z9 := unhide hs18; have z10 := unhide hs21; have z11 := unhide hs24; have z12 := unhide hzV25; have z13 := unhide hs26; have z14 := unhide hs29; have z15 := unhide hs32; have z16 := unhide hs36; have z17 := unhide hs39; have z18 := unhide hs42; have z19 := unhide hs45; have z20 := unhide hs48; have z21 := unhide hs51; have z22 := unhide hs54; have z23 := unhide hs57; omega))
  replace HB_g0 := hide (F59.kept (unhide HB_g0) (fun h9 => by have b9 := (unhide HL_g1) _ h9; have z0 := unhide hzW0; have z1 := unhide hs2; have z2 := unhide hs5; have z3 := unhide hs8; have z4 := unhide hs11; have z5 := unhide hzV12; have z6 := unhide hs13; have z7 := unhide hs16; have z8 := unhide hzV17; have z9 := unhide hs18; have z10 := unhide hs21; have z11 := unhide hs24; have z12 := unhide hzV25; have z13 := unhide hs26; have z14 := unhide hs29; have z15 := unhide hs32; have z16 := unhide hs36; have z17 := unhide hs39; have z18 := unhide hs42; have z19 := unhide hs45; have z20 := unhide hs48; have z21 := unhide hs51; have z22 := unhide hs54; have z23 := unhide hs57; omega))
  replace HO_g0 := hide ((MK0 (1)).ofr (unhide HO_g0) F59 (fun q9 h8 h9 => (unhide HD_g0_g1) q9 h8 h9))
  have hs60 := hide F59.size
  replace HO_g1 := hide om
  clear om
  have hq0 : ¬ (1 + (mK0 : Int) : Int) < 0 := by omega
  have c_g0_0 : w58.cell? ⟨w22.heap.size, 0, none⟩ = some (.slice g0_0a g0_0n g0_0c) := cells_of (unhide HB_g0) 0 _ rfl
  have c_g0_1 : w58.cell? ⟨w22.heap.size, 1, none⟩ = some (.bool g0_1) := cells_of (unhide HB_g0) 1 _ rfl
  go_wp2_with fail
  clear c_g0_0 c_g0_1
  refine ((unhide HHdK0) _ _ _ ((MK0 (1)).reads (unhide HO_g0)) (by omega) (by omega)).mono ?_
  rintro e w61 ⟨rfl, F62⟩
  have hs63 := hide (F62).size
  replace E := E.trans F62
  replace HB_p := hide ((F62).kept (unhide HB_p))
  replace HB_w0 := hide ((F62).kept (unhide HB_w0))
  replace HB_g0 := hide ((F62).kept (unhide HB_g0))
  replace HO_g0 := hide ((MK0 (1)).oext (unhide HO_g0) F62)
  replace HO_g1 := hide ((MK1 (1 + (mK0 : Int))).oext (unhide HO_g1) F62)
  replace HEw := hide ((unhide HEw).trans F62)
  have hq1 : ¬ (1 + (mK0 : Int) + (mK1 : Int) : Int) < 0 := by omega
  go_wp2_with fail
  refine ((unhide HHdK1) _ _ _ ((MK1 (1 + (mK0 : Int))).reads (unhide HO_g1)) (by omega) (by omega)).mono ?_
  rintro e w64 ⟨rfl, F65⟩
  have hs66 := hide (F65).size
  replace E := E.trans F65
  replace HB_p := hide ((F65).kept (unhide HB_p))
  replace HB_w0 := hide ((F65).kept (unhide HB_w0))
  replace HB_g0 := hide ((F65).kept (unhide HB_g0))
  replace HO_g0 := hide ((MK0 (1)).oext (unhide HO_g0) F65)
  replace HO_g1 := hide ((MK1 (1 + (mK0 : Int))).oext (unhide HO_g1) F65)
  replace HEw := hide ((unhide HEw).trans F65)
  have c_p_0 : w64.cell? ⟨w.heap.size, 0, none⟩ = some (.slice p0_0a p0_0n p0_0c) := cells_of (unhide HB_p) 0 _ rfl
  have c_p_1 : w64.cell? ⟨w.heap.size, 1, none⟩ = some (.bool p0_1) := cells_of (unhide HB_p) 1 _ rfl
  go_wp2_with fail
  clear c_p_0 c_p_1
  refine ((unhide HTo0) _ E).mono ?_
  rintro e w67 ⟨ut0, St0, rfl, ot0, F68⟩
  have HL_t0 : Hid (∀ g, St0 g → w64.heap.size ≤ g ∧ g < w67.heap.size) := hide (X0.lt ot0)
  have hs69 := hide (F68).size
  replace E := E.trans F68
  replace HB_p := hide ((F68).kept (unhide HB_p))
  replace HB_w0 := hide ((F68).kept (unhide HB_w0))
  replace HB_g0 := hide ((F68).kept (unhide HB_g0))
  replace HO_g0 := hide ((MK0 (1)).oext (unhide HO_g0) F68)
  replace HO_g1 := hide ((MK1 (1 + (mK0 : Int))).oext (unhide HO_g1) F68)
  replace HEw := hide ((unhide HEw).trans F68)
  obtain ⟨t0_0a, t0_0n, t0_0c, t0_1, rfl⟩ := (unhide ShX0) _ _ (X0.reads ot0)
  have HO_t0 := hide ot0
  clear ot0
  have c_p_0 : w67.cell? ⟨w.heap.size, 0, none⟩ = some (.slice p0_0a p0_0n p0_0c) := cells_of (unhide HB_p) 0 _ rfl
  have c_p_1 : w67.cell? ⟨w.heap.size, 1, none⟩ = some (.bool p0_1) := cells_of (unhide HB_p) 1 _ rfl
  go_wp2_with fail
  clear c_p_0 c_p_1
  refine ((unhide HTo1) _ E).mono ?_
  rintro e w70 ⟨ut1, St1, rfl, ot1, F71⟩
  have HL_t1 : Hid (∀ g, St1 g → w67.heap.size ≤ g ∧ g < w70.heap.size) := hide (X1.lt ot1)
  have hs72 := hide (F71).size
  replace E := E.trans F71
  replace HB_p := hide ((F71).kept (unhide HB_p))
  replace HB_w0 := hide ((F71).kept (unhide HB_w0))
  replace HB_g0 := hide ((F71).kept (unhide HB_g0))
  replace HO_g0 := hide ((MK0 (1)).oext (unhide HO_g0) F71)
  replace HO_g1 := hide ((MK1 (1 + (mK0 : Int))).oext (unhide HO_g1) F71)
  replace HO_t0 := hide (X0.oext (unhide HO_t0) F71)
  replace HEw := hide ((unhide HEw).trans F71)
  obtain ⟨t1_a, t1_n, t1_c, rfl⟩ := (unhide ShX1) _ _ (X1.reads ot1)
  have HO_t1 := hide ot1
  clear ot1
  go_wp2_with fail
  refine ((unhide HI) _ _ _ E (X0.reads (unhide HO_t0)) (X1.reads (unhide HO_t1))).mono ?_
  rintro e w73 ⟨uh0, Sh0, uh1, Sh1, rfl, oh0, oh1, ah01, F74⟩
  have HL_h0 : Hid (∀ g, Sh0 g → w70.heap.size ≤ g ∧ g < w73.heap.size) := hide (K0.lt oh0)
  have HL_h1 : Hid (∀ g, Sh1 g → w70.heap.size ≤ g ∧ g < w73.heap.size) := hide (K1.lt oh1)
  have HD_h0_h1 := hide ah01
  clear ah01
  have hs75 := hide (F74).size
  replace E := E.trans F74
  replace HB_p := hide ((F74).kept (unhide HB_p))
  replace HB_w0 := hide ((F74).kept (unhide HB_w0))
  replace HB_g0 := hide ((F74).kept (unhide HB_g0))
  replace HO_g0 := hide ((MK0 (1)).oext (unhide HO_g0) F74)
  replace HO_g1 := hide ((MK1 (1 + (mK0 : Int))).oext (unhide HO_g1) F74)
  replace HO_t0 := hide (X0.oext (unhide HO_t0) F74)
  replace HO_t1 := hide (X1.oext (unhide HO_t1) F74)
  replace HEw := hide ((unhide HEw).trans F74)
  obtain ⟨h0_0a, h0_0n, h0_0c, h0_1, rfl⟩ := (unhide ShK0) _ _ (K0.reads oh0)
  have HO_h0 := hide oh0
  clear oh0
  obtain ⟨h1_a, h1_n, h1_c, rfl⟩ := (unhide ShK1) _ _ (K1.reads oh1)
  have HO_h1 := hide oh1
  clear oh1
  clear HO_t0
  clear HO_t1
  have c_w0_0 : ∀ o0, (w73.alloc o0).cell? ⟨w9.heap.size, 0, none⟩ = some (.slice w0_0a w0_0n w0_0c) := fun o0 => ((Ext.refl w73).alloc o0).cell (cells_of (unhide HB_w0) 0 _ rfl)
  have c_w0_1 : ∀ o0, (w73.alloc o0).cell? ⟨w9.heap.size, 1, none⟩ = some (.bool w0_1) := fun o0 => ((Ext.refl w73).alloc o0).cell (cells_of (unhide HB_w0) 1 _ rfl)
  go_wp2_with fail
  clear c_w0_0 c_w0_1
  obtain ⟨V76, hV76⟩ : ∃ V76, V76 = w73.alloc (.cells #[.slice h0_0a h0_0n h0_0c, .bool h0_1] 24) := ⟨_, rfl⟩
  rw [← hV76]
  have FV76 : Ext w73 V76 := by rw [hV76]; exact (Ext.refl w73).alloc _
  have HB_h0 : Hid (V76.heap[w73.heap.size]? = some (.cells #[.slice h0_0a h0_0n h0_0c, .bool h0_1] 24 (0, 0))) := hide (by rw [hV76]; exact new_block w73 _)
  have hzV76 := hide (lt_of_block (unhide HB_h0))
  clear hV76
  have hs77 := hide (FV76).size
  replace E := E.trans FV76
  replace HB_p := hide ((FV76).kept (unhide HB_p))
  replace HB_w0 := hide ((FV76).kept (unhide HB_w0))
  replace HB_g0 := hide ((FV76).kept (unhide HB_g0))
  replace HO_g0 := hide ((MK0 (1)).oext (unhide HO_g0) FV76)
  replace HO_g1 := hide ((MK1 (1 + (mK0 : Int))).oext (unhide HO_g1) FV76)
  replace HO_h0 := hide (K0.oext (unhide HO_h0) FV76)
  replace HO_h1 := hide (K1.oext (unhide HO_h1) FV76)
  replace HEw := hide ((unhide HEw).trans FV76)
  refine ((unhide HEqK0) _ _ _ (K0.reads (unhide HO_h0)) (K0.rext (unhide HR_w0) (unhide HEw))).mono ?_
  rintro e w78 ⟨rfl, F79⟩
  have hs80 := hide (F79).size
  replace E := E.trans F79
  replace HB_p := hide ((F79).kept (unhide HB_p))
  replace HB_w0 := hide ((F79).kept (unhide HB_w0))
  replace HB_g0 := hide ((F79).kept (unhide HB_g0))
  replace HB_h0 := hide ((F79).kept (unhide HB_h0))
  replace HO_g0 := hide ((MK0 (1)).oext (unhide HO_g0) F79)
  replace HO_g1 := hide ((MK1 (1 + (mK0 : Int))).oext (unhide HO_g1) F79)
  replace HO_h0 := hide (K0.oext (unhide HO_h0) F79)
  replace HO_h1 := hide (K1.oext (unhide HO_h1) F79)
  replace HEw := hide ((unhide HEw).trans F79)
  have c_h0_0 : w78.cell? ⟨w73.heap.size, 0, none⟩ = some (.slice h0_0a h0_0n h0_0c) := cells_of (unhide HB_h0) 0 _ rfl
  have c_h0_1 : w78.cell? ⟨w73.heap.size, 1, none⟩ = some (.bool h0_1) := cells_of (unhide HB_h0) 1 _ rfl
  have c_w0_0 : w78.cell? ⟨w9.heap.size, 0, none⟩ = some (.slice w0_0a w0_0n w0_0c) := cells_of (unhide HB_w0) 0 _ rfl
  have c_w0_1 : w78.cell? ⟨w9.heap.size, 1, none⟩ = some (.bool w0_1) := cells_of (unhide HB_w0) 1 _ rfl
  go_wp2_with fail
  clear c_h0_0 c_h0_1 c_w0_0 c_w0_1
  refine ((unhide HEqK1) _ _ _ (K1.reads (unhide HO_h1)) (K1.rext (unhide HR_w1) (unhide HEw))).mono ?_
  rintro e w81 ⟨rfl, F82⟩
  have hs83 := hide (F82).size
  replace E := E.trans F82
  replace HB_p := hide ((F82).kept (unhide HB_p))
  replace HB_w0 := hide ((F82).kept (unhide HB_w0))
  replace HB_g0 := hide ((F82).kept (unhide HB_g0))
  replace HB_h0 := hide ((F82).kept (unhide HB_h0))
  replace HO_g0 := hide ((MK0 (1)).oext (unhide HO_g0) F82)
  replace HO_g1 := hide ((MK1 (1 + (mK0 : Int))).oext (unhide HO_g1) F82)
  replace HO_h0 := hide (K0.oext (unhide HO_h0) F82)
  replace HO_h1 := hide (K1.oext (unhide HO_h1) F82)
  replace HEw := hide ((unhide HEw).trans F82)
  have hq0 : ¬ (1 + (mK0 : Int) : Int) < 0 := by omega
  have c_g0_0 : w81.cell? ⟨w22.heap.size, 0, none⟩ = some (.slice g0_0a g0_0n g0_0c) := cells_of (unhide HB_g0) 0 _ rfl
  have c_g0_1 : w81.cell? ⟨w22.heap.size, 1, none⟩ = some (.bool g0_1) := cells_of (unhide HB_g0) 1 _ rfl
  go_wp2_with fail
  clear c_g0_0 c_g0_1
  refine ((unhide HHdK0) _ _ _ ((MK0 (1)).reads (unhide HO_g0)) (by omega) (by omega)).mono ?_
  rintro e w84 ⟨rfl, F85⟩
  have hs86 := hide (F85).size
  replace E := E.trans F85
  replace HB_p := hide ((F85).kept (unhide HB_p))
  replace HB_w0 := hide ((F85).kept (unhide HB_w0))
  replace HB_g0 := hide ((F85).kept (unhide HB_g0))
  replace HB_h0 := hide ((F85).kept (unhide HB_h0))
  replace HO_g0 := hide ((MK0 (1)).oext (unhide HO_g0) F85)
  replace HO_g1 := hide ((MK1 (1 + (mK0 : Int))).oext (unhide HO_g1) F85)
  replace HO_h0 := hide (K0.oext (unhide HO_h0) F85)
  replace HO_h1 := hide (K1.oext (unhide HO_h1) F85)
  replace HEw := hide ((unhide HEw).trans F85)
  have hq1 : ¬ (1 + (mK0 : Int) + (mK1 : Int) : Int) < 0 := by omega
  go_wp2_with fail
  refine ((unhide HHdK1) _ _ _ ((MK1 (1 + (mK0 : Int))).reads (unhide HO_g1)) (by omega) (by omega)).mono ?_
  rintro e w87 ⟨rfl, F88⟩
  have hs89 := hide (F88).size
  replace E := E.trans F88
  replace HB_p := hide ((F88).kept (unhide HB_p))
  replace HB_w0 := hide ((F88).kept (unhide HB_w0))
  replace HB_g0 := hide ((F88).kept (unhide HB_g0))
  replace HB_h0 := hide ((F88).kept (unhide HB_h0))
  replace HO_g0 := hide ((MK0 (1)).oext (unhide HO_g0) F88)
  replace HO_g1 := hide ((MK1 (1 + (mK0 : Int))).oext (unhide HO_g1) F88)
  replace HO_h0 := hide (K0.oext (unhide HO_h0) F88)
  replace HO_h1 := hide (K1.oext (unhide HO_h1) F88)
  replace HEw := hide ((unhide HEw).trans F88)
  go_wp2
  go_ret
  exact ⟨rfl, E.below⟩
end Go.Proofs.YtbieoijeilhadaaDoor

namespace Go.Proofs.YtbieoijeilhadaaDoor
open Go.RowKit
def krK (bs : List Int) (p : Bool) : Kd where
  R w v := ∃ u, v = .agg #[u, .bool p] ∧ IntsAt w .u8 u bs
  O w base S v := ∃ u, v = .agg #[u, .bool p] ∧ w.ownsRow base 5 1 u bs.length (bs.map (Value.int .u8)) ∧ ∀ g, S g ↔ u.ownBlock = some g
  rext := by rintro w w' v ⟨u, e, h⟩ he; exact ⟨u, e, h.ext he⟩
  oext := by rintro w w' b S v ⟨u, e, h, hS⟩ he; exact ⟨u, e, he.owns h, hS⟩
  ofr := by rintro w w' b S S' v ⟨u, e, h, hS⟩ hf hd; exact ⟨u, e, hf.owns h (fun g hg => hd g ((hS g).2 hg)), hS⟩
  reads := by rintro w b S v ⟨u, e, h, hS⟩; exact ⟨u, e, ints_of_owns h⟩
  lt := by rintro w b S v ⟨u, e, h, hS⟩ g hg; exact h.lt g ((hS g).1 hg)
theorem krK_shape {bs : List Int} {p : Bool} {w : World} {v : Value} (h : (krK bs p).R w v) : ∃ ua uc, v = .agg #[.slice ua bs.length uc, .bool p] := by
  obtain ⟨u, rfl, ua, uc, rfl, _⟩ := h
  exact ⟨ua, uc, rfl⟩
theorem krK_own {bs : List Int} {p : Bool} {w : World} {base : Nat} {u : Value} (h : w.ownsRow base 5 1 u bs.length (bs.map (Value.int .u8))) : (krK bs p).O w base (fun g => u.ownBlock = some g) (.agg #[u, .bool p]) := ⟨u, rfl, h, fun _ => Iff.rfl⟩
theorem krK_eq (bs : List Int) (p : Bool) (hn : bs.length ≤ 4398046511104) : EqOk 16 (krK bs p) := by
  rintro w x y ⟨ux, rfl, h1⟩ ⟨uy, rfl, h2⟩
  exact eqKeyReader_same ux uy bs p w h1 h2 hn
theorem krK_mark (bs : List Int) (p : Bool) (hn : bs.length ≤ 4194304) : MarkOk 19 (krK bs p) (fun k => krK (mkU8 k bs.length) p) bs.length := by
  rintro w base S v k ⟨u, rfl, h, hS⟩ h0 h1
  refine (markKeyReader_any base u bs.length _ p k w h (by omega) h0 (by omega)).mono ?_
  rintro e w' ⟨rfl, o, f⟩
  exact ⟨rfl, ⟨u, rfl, by rw [mkU8_len]; exact o, hS⟩, (Fr.refl _ w).grown f (fun g hg => (hS g).2 hg)⟩
theorem krK_held (n : Nat) (p : Bool) (hn : n ≤ 4194304) : HeldOk 22 (fun k => krK (mkU8 k n) p) n := by
  rintro w v k ⟨u, rfl, h⟩ h0 h1
  exact heldKeyReader_any u n p k w h (by omega) h0 (by omega)
def kysK (cs : List (List Int × Int)) : Kd where
  R w v := KysAt w v cs
  O w base S v := ∃ rs, OwnKys w base v rs cs ∧ ∀ g, S g ↔ Foot v rs cs.length g
  rext h e := h.ext e
  oext := by rintro w w' b S v ⟨rs, h, hS⟩ he; exact ⟨rs, h.ext he, hS⟩
  ofr := by rintro w w' b S S' v ⟨rs, h, hS⟩ hf hd; exact ⟨rs, h.fr hf (fun g hg => hd g ((hS g).2 hg)), hS⟩
  reads := by rintro w b S v ⟨rs, h, hS⟩; exact h.cls
  lt := by rintro w b S v ⟨rs, h, hS⟩ g hg; exact h.foot ((hS g).1 hg)
theorem kysK_shape {cs : List (List Int × Int)} {w : World} {v : Value} (h : (kysK cs).R w v) : ∃ ua uc, v = .slice ua cs.length uc := by
  obtain ⟨rs, ao, cap, e, _⟩ := h
  exact ⟨ao, cap, e⟩
theorem kysK_own {cs : List (List Int × Int)} {rs : List Value} {w : World} {base : Nat} {v : Value} (h : OwnKys w base v rs cs) : (kysK cs).O w base (Foot v rs cs.length) v := ⟨rs, h, fun _ => Iff.rfl⟩
def sumK (cs : List (List Int × Int)) : Nat := (cs.map (fun x => x.1.length)).sum
theorem kkC_tot (k : Int) (cs : List (List Int × Int)) : ∀ j, j ≤ cs.length → kkC k cs j = k + (j : Int) + (sumK (cs.take j) : Int)
  | 0, _ => by simp [kkC, sumK]
  | j + 1, h => by
    have hj : j < cs.length := by omega
    have hc : (cR cs j).length = cs[j].1.length := by simp [cR, hj]
    have hs : sumK (cs.take j ++ [cs[j]]) = sumK (cs.take j) + cs[j].1.length := by unfold sumK; rw [List.map_append, List.sum_append]; simp
    rw [kkC, kkC_tot k cs j (by omega), List.take_succ_eq_append_getElem hj, hs, hc]
    omega
theorem sumK_take (cs : List (List Int × Int)) (j : Nat) : sumK (cs.take j) ≤ sumK cs := by
  have : sumK cs = sumK (cs.take j) + sumK (cs.drop j) := by
    unfold sumK
    rw [← List.sum_append, ← List.map_append, List.take_append_drop]
  omega
theorem len_sumK : ∀ (cs : List (List Int × Int)) (j : Nat), (cR cs j).length ≤ sumK cs
  | [], j => by simp [cR, sumK]
  | c :: cs, 0 => by simp [cR, sumK]
  | c :: cs, j + 1 => by
    have := len_sumK cs j
    simp [cR, sumK] at this ⊢
    omega
theorem kysK_eq (cs : List (List Int × Int)) (hn : cs.length ≤ 4194304) (hs : sumK cs ≤ 4194304) : EqOk 17 (kysK cs) := fun w a b ha hb => eqKeyS_same a b cs w ha hb (by omega) (fun j _ => by have := len_sumK cs j; omega)
theorem kys_small (cs : List (List Int × Int)) (k : Int) (hn : cs.length ≤ 4194304) (hs : sumK cs ≤ 4194304) (h0 : 0 ≤ k) (h1 : k ≤ 68719476736) : Small k cs := fun j hj => by
  rw [kkC_tot k cs j hj]
  have := sumK_take cs j
  omega
theorem kysK_mark (cs : List (List Int × Int)) (hn : cs.length ≤ 4194304) (hs : sumK cs ≤ 4194304) : MarkOk 21 (kysK cs) (fun k => kysK (mkKys k cs)) (cs.length + sumK cs) := by
  rintro w base S v k ⟨rs, h, hS⟩ h0 h1
  refine (markKeyS_any base v rs cs k w h (by omega) (fun j _ => by have := len_sumK cs j; omega) (kys_small cs k hn hs h0 h1)).mono ?_
  rintro e w' ⟨rfl, o, f⟩
  refine ⟨?_, ⟨rs, o, by rw [mkKys_len]; exact hS⟩, f.mono (fun g hg => (hS g).2 hg)⟩
  rw [kkC_tot k cs cs.length (Nat.le_refl _), List.take_length]
  congr 2
  omega
theorem kysK_held (cs : List (List Int × Int)) (hn : cs.length ≤ 4194304) (hs : sumK cs ≤ 4194304) : HeldOk 23 (fun k => kysK (mkKys k cs)) (cs.length + sumK cs) := by
  rintro w v k h h0 h1
  refine (heldKeyS_any v cs k w h (by omega) (fun j _ => by have := len_sumK cs j; omega) (kys_small cs k hn hs h0 h1)).mono ?_
  rintro e w' ⟨rfl, f⟩
  refine ⟨?_, f⟩
  rw [kkC_tot k cs cs.length (Nat.le_refl _), List.take_length]
  congr 2
  omega
end Go.Proofs.YtbieoijeilhadaaDoor
