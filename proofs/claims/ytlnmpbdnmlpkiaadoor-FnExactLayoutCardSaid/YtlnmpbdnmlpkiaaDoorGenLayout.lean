import Derived.Test.YtlnmpbdnmlpkiaaDoorKd
import Derived.Deep.RegionHeld3
namespace Go.Proofs.YtlnmpbdnmlpkiaaDoor
open Go.RowKit

set_option maxRecDepth 10000 in
set_option maxHeartbeats 8000000 in
theorem law_Layout (s0 : ByteArray) (p1_0 : ByteArray) (p1_1 : ByteArray) (p1_2 : ByteArray) (p1_3a : Option Addr) (p1_3n : Nat) (p1_3c : Nat) (s2 : Int) (s3 : Int) (w : World)
    (hlen0 : s0.size ≤ 1048576)
    (X1 : Kd) (MX1 : Int → Kd) (mX1 : Nat)
    (K0 : Kd) (MK0 : Int → Kd) (mK0 : Nat)
    (Fit : Prop)
    (HZ : Hid (∀ W, Ext w W → Calls Tryd.prog 25 #[.agg #[.string p1_0, .string p1_1, .string p1_2, .slice p1_3a p1_3n p1_3c], .int .i64 1048576] W fun e w' => ∃ r : Int, e = .returned (.int .i64 r) ∧ (0 ≤ r → Fit) ∧ Ext W w'))
    (HTo1' : Hid (Fit → ∀ W, Ext w W → Calls Tryd.prog 27 #[.agg #[.string p1_0, .string p1_1, .string p1_2, .slice p1_3a p1_3n p1_3c]] W fun e w' => ∃ u S, e = .returned u ∧ X1.O w' W.heap.size S u ∧ Ext W w'))
    (ShX1 : Hid (∀ W u, X1.R W u → ∃ (x0 : ByteArray) (x1 : ByteArray) (x2 : ByteArray) (x3a : Option Addr) (x3n : Nat) (x3c : Nat), u = .agg #[.string x0, .string x1, .string x2, .slice x3a x3n x3c]))
    (HEqX1' : Hid (Fit → EqOk 29 X1)) (HMkX1' : Hid (Fit → MarkOk 30 X1 MX1 mX1 ∧ mX1 ≤ 1073741824))
    (HS' : Hid (Fit → ∀ (W : World) (u1 : Value), Ext w W → X1.R W u1 → Calls Tryd.prog 32 #[.string s0, u1, .int .i64 s2, .int .i64 s3] W fun e w' => ∃ v0, e = .returned (v0) ∧ K0.R w' v0 ∧ Ext W w'))
    (HI' : Hid (Fit → ∀ (W : World) (u1 : Value), Ext w W → X1.R W u1 → Calls Tryd.prog 33 #[.string s0, u1, .int .i64 s2, .int .i64 s3] W fun e w' => ∃ v0 S0, e = .returned (v0) ∧ K0.O w' W.heap.size S0 v0 ∧ Ext W w'))
    (ShK0 : Hid (∀ W u, K0.R W u → ∃ (x0a : Option Addr) (x0n : Nat) (x0c : Nat) (x1 : Int) (x2 : Int), u = .agg #[.slice x0a x0n x0c, .int .i64 x1, .int .i64 x2]))
    (HEqK0' : Hid (Fit → EqOk 34 K0)) (HMkK0' : Hid (Fit → MarkOk 35 K0 MK0 mK0 ∧ mK0 ≤ 1073741824)) (HHdK0' : Hid (Fit → HeldOk 36 MK0 mK0))
    : Calls Tryd.prog 6 #[.string s0, .agg #[.string p1_0, .string p1_1, .string p1_2, .slice p1_3a p1_3n p1_3c], .int .i64 s2, .int .i64 s3] w fun e w' => e = .returned (.bool true) ∧ Below w.heap.size w w' := by
  have hlI0 : ¬ (1048576 : Int) < (s0.size : Int) := by omega
  go_enter Tryd.func6, Tryd.ntmps6
  go_wp2_with fail
  obtain ⟨W0, hW0⟩ : ∃ W0, W0 = w.alloc (.cells #[.string p1_0, .string p1_1, .string p1_2, .slice p1_3a p1_3n p1_3c] 50) := ⟨_, rfl⟩
  rw [← hW0]
  have E : Ext w W0 := by rw [hW0]; exact (Ext.refl w).alloc _
  have HB_p : Hid (W0.heap[w.heap.size]? = some (.cells #[.string p1_0, .string p1_1, .string p1_2, .slice p1_3a p1_3n p1_3c] 50 (0, 0))) := hide (by rw [hW0]; exact new_block w _)
  have hzW0 := hide (lt_of_block (unhide HB_p))
  clear hW0
  refine ((unhide HZ) _ E).mono ?_
  rintro e w1 ⟨r, rfl, hr, F1⟩
  have hs2 := hide (F1).size
  replace E := E.trans F1
  replace HB_p := hide ((F1).kept (unhide HB_p))
  by_cases hr0 : r < 0
  · go_wp2
    go_ret
    exact ⟨rfl, E.below⟩
  have hfit : Fit := hr (by omega)
  clear hr HZ
  have HTo1 := hide ((unhide HTo1') hfit)
  have HEqX1 := hide ((unhide HEqX1') hfit)
  have HMkX1 := hide ((unhide HMkX1') hfit).1
  have hmX1 := ((unhide HMkX1') hfit).2
  clear HTo1' HEqX1' HMkX1'
  have HEqK0 := hide ((unhide HEqK0') hfit)
  have HMkK0 := hide ((unhide HMkK0') hfit).1
  have hmK0 := ((unhide HMkK0') hfit).2
  have HHdK0 := hide ((unhide HHdK0') hfit)
  clear HEqK0' HMkK0' HHdK0'
  have HS := hide ((unhide HS') hfit)
  have HI := hide ((unhide HI') hfit)
  clear HS' HI' hfit
  have c_p_0 : w1.cell? ⟨w.heap.size, 0, none⟩ = some (.string p1_0) := cells_of (unhide HB_p) 0 _ rfl
  have c_p_1 : w1.cell? ⟨w.heap.size, 1, none⟩ = some (.string p1_1) := cells_of (unhide HB_p) 1 _ rfl
  have c_p_2 : w1.cell? ⟨w.heap.size, 2, none⟩ = some (.string p1_2) := cells_of (unhide HB_p) 2 _ rfl
  have c_p_3 : w1.cell? ⟨w.heap.size, 3, none⟩ = some (.slice p1_3a p1_3n p1_3c) := cells_of (unhide HB_p) 3 _ rfl
  go_wp2_with fail
  clear c_p_0 c_p_1 c_p_2 c_p_3
  refine ((unhide HTo1) _ E).mono ?_
  rintro e w3 ⟨ut1, St1, rfl, ot1, F4⟩
  have HL_t1 : Hid (∀ g, St1 g → w1.heap.size ≤ g ∧ g < w3.heap.size) := hide (X1.lt ot1)
  have hs5 := hide (F4).size
  replace E := E.trans F4
  replace HB_p := hide ((F4).kept (unhide HB_p))
  obtain ⟨t1_0, t1_1, t1_2, t1_3a, t1_3n, t1_3c, rfl⟩ := (unhide ShX1) _ _ (X1.reads ot1)
  have HO_t1 := hide ot1
  clear ot1
  go_wp2_with fail
  refine ((unhide HS) _ _ E (X1.reads (unhide HO_t1))).mono ?_
  rintro e w6 ⟨uw0, rfl, rw0, F7⟩
  have hs8 := hide (F7).size
  replace E := E.trans F7
  replace HB_p := hide ((F7).kept (unhide HB_p))
  replace HO_t1 := hide (X1.oext (unhide HO_t1) F7)
  obtain ⟨w0_0a, w0_0n, w0_0c, w0_1, w0_2, rfl⟩ := (unhide ShK0) _ _ rw0
  have HR_w0 := hide rw0
  clear rw0
  have HEw := hide (Ext.refl w6)
  clear HO_t1
  have c_p_0 : ∀ o0, (w6.alloc o0).cell? ⟨w.heap.size, 0, none⟩ = some (.string p1_0) := fun o0 => ((Ext.refl w6).alloc o0).cell (cells_of (unhide HB_p) 0 _ rfl)
  have c_p_1 : ∀ o0, (w6.alloc o0).cell? ⟨w.heap.size, 1, none⟩ = some (.string p1_1) := fun o0 => ((Ext.refl w6).alloc o0).cell (cells_of (unhide HB_p) 1 _ rfl)
  have c_p_2 : ∀ o0, (w6.alloc o0).cell? ⟨w.heap.size, 2, none⟩ = some (.string p1_2) := fun o0 => ((Ext.refl w6).alloc o0).cell (cells_of (unhide HB_p) 2 _ rfl)
  have c_p_3 : ∀ o0, (w6.alloc o0).cell? ⟨w.heap.size, 3, none⟩ = some (.slice p1_3a p1_3n p1_3c) := fun o0 => ((Ext.refl w6).alloc o0).cell (cells_of (unhide HB_p) 3 _ rfl)
  go_wp2_with fail
  clear c_p_0 c_p_1 c_p_2 c_p_3
  obtain ⟨V9, hV9⟩ : ∃ V9, V9 = w6.alloc (.cells #[.slice w0_0a w0_0n w0_0c, .int .i64 w0_1, .int .i64 w0_2] 62) := ⟨_, rfl⟩
  rw [← hV9]
  have FV9 : Ext w6 V9 := by rw [hV9]; exact (Ext.refl w6).alloc _
  have HB_w0 : Hid (V9.heap[w6.heap.size]? = some (.cells #[.slice w0_0a w0_0n w0_0c, .int .i64 w0_1, .int .i64 w0_2] 62 (0, 0))) := hide (by rw [hV9]; exact new_block w6 _)
  have hzV9 := hide (lt_of_block (unhide HB_w0))
  clear hV9
  have hs10 := hide (FV9).size
  replace E := E.trans FV9
  replace HB_p := hide ((FV9).kept (unhide HB_p))
  replace HEw := hide ((unhide HEw).trans FV9)
  refine ((unhide HTo1) _ E).mono ?_
  rintro e w11 ⟨ux1, Sx1, rfl, ox1, F12⟩
  have HL_x1 : Hid (∀ g, Sx1 g → V9.heap.size ≤ g ∧ g < w11.heap.size) := hide (X1.lt ox1)
  have hs13 := hide (F12).size
  replace E := E.trans F12
  replace HB_p := hide ((F12).kept (unhide HB_p))
  replace HB_w0 := hide ((F12).kept (unhide HB_w0))
  replace HEw := hide ((unhide HEw).trans F12)
  obtain ⟨x1_0, x1_1, x1_2, x1_3a, x1_3n, x1_3c, rfl⟩ := (unhide ShX1) _ _ (X1.reads ox1)
  have HO_x1 := hide ox1
  clear ox1
  go_wp2_with fail
  obtain ⟨V14, hV14⟩ : ∃ V14, V14 = w11.alloc (.cells #[.string x1_0, .string x1_1, .string x1_2, .slice x1_3a x1_3n x1_3c] 54) := ⟨_, rfl⟩
  rw [← hV14]
  have FV14 : Ext w11 V14 := by rw [hV14]; exact (Ext.refl w11).alloc _
  have HB_x1 : Hid (V14.heap[w11.heap.size]? = some (.cells #[.string x1_0, .string x1_1, .string x1_2, .slice x1_3a x1_3n x1_3c] 54 (0, 0))) := hide (by rw [hV14]; exact new_block w11 _)
  have hzV14 := hide (lt_of_block (unhide HB_x1))
  clear hV14
  have hs15 := hide (FV14).size
  replace E := E.trans FV14
  replace HB_p := hide ((FV14).kept (unhide HB_p))
  replace HB_w0 := hide ((FV14).kept (unhide HB_w0))
  replace HO_x1 := hide (X1.oext (unhide HO_x1) FV14)
  replace HEw := hide ((unhide HEw).trans FV14)
  refine ((unhide HI) _ _ E (X1.reads (unhide HO_x1))).mono ?_
  rintro e w16 ⟨ug0, Sg0, rfl, og0, F17⟩
  have HL_g0 : Hid (∀ g, Sg0 g → V14.heap.size ≤ g ∧ g < w16.heap.size) := hide (K0.lt og0)
  have hs18 := hide (F17).size
  replace E := E.trans F17
  replace HB_p := hide ((F17).kept (unhide HB_p))
  replace HB_w0 := hide ((F17).kept (unhide HB_w0))
  replace HB_x1 := hide ((F17).kept (unhide HB_x1))
  replace HO_x1 := hide (X1.oext (unhide HO_x1) F17)
  replace HEw := hide ((unhide HEw).trans F17)
  obtain ⟨g0_0a, g0_0n, g0_0c, g0_1, g0_2, rfl⟩ := (unhide ShK0) _ _ (K0.reads og0)
  have HO_g0 := hide og0
  clear og0
  have c_w0_0 : ∀ o0, (w16.alloc o0).cell? ⟨w6.heap.size, 0, none⟩ = some (.slice w0_0a w0_0n w0_0c) := fun o0 => ((Ext.refl w16).alloc o0).cell (cells_of (unhide HB_w0) 0 _ rfl)
  have c_w0_1 : ∀ o0, (w16.alloc o0).cell? ⟨w6.heap.size, 1, none⟩ = some (.int .i64 w0_1) := fun o0 => ((Ext.refl w16).alloc o0).cell (cells_of (unhide HB_w0) 1 _ rfl)
  have c_w0_2 : ∀ o0, (w16.alloc o0).cell? ⟨w6.heap.size, 2, none⟩ = some (.int .i64 w0_2) := fun o0 => ((Ext.refl w16).alloc o0).cell (cells_of (unhide HB_w0) 2 _ rfl)
  go_wp2_with fail
  clear c_w0_0 c_w0_1 c_w0_2
  obtain ⟨V19, hV19⟩ : ∃ V19, V19 = w16.alloc (.cells #[.slice g0_0a g0_0n g0_0c, .int .i64 g0_1, .int .i64 g0_2] 62) := ⟨_, rfl⟩
  rw [← hV19]
  have FV19 : Ext w16 V19 := by rw [hV19]; exact (Ext.refl w16).alloc _
  have HB_g0 : Hid (V19.heap[w16.heap.size]? = some (.cells #[.slice g0_0a g0_0n g0_0c, .int .i64 g0_1, .int .i64 g0_2] 62 (0, 0))) := hide (by rw [hV19]; exact new_block w16 _)
  have hzV19 := hide (lt_of_block (unhide HB_g0))
  clear hV19
  have hs20 := hide (FV19).size
  replace E := E.trans FV19
  replace HB_p := hide ((FV19).kept (unhide HB_p))
  replace HB_w0 := hide ((FV19).kept (unhide HB_w0))
  replace HB_x1 := hide ((FV19).kept (unhide HB_x1))
  replace HO_x1 := hide (X1.oext (unhide HO_x1) FV19)
  replace HO_g0 := hide (K0.oext (unhide HO_g0) FV19)
  replace HEw := hide ((unhide HEw).trans FV19)
  refine ((unhide HEqK0) _ _ _ (K0.reads (unhide HO_g0)) (K0.rext (unhide HR_w0) (unhide HEw))).mono ?_
  rintro e w21 ⟨rfl, F22⟩
  have hs23 := hide (F22).size
  replace E := E.trans F22
  replace HB_p := hide ((F22).kept (unhide HB_p))
  replace HB_w0 := hide ((F22).kept (unhide HB_w0))
  replace HB_x1 := hide ((F22).kept (unhide HB_x1))
  replace HB_g0 := hide ((F22).kept (unhide HB_g0))
  replace HO_x1 := hide (X1.oext (unhide HO_x1) F22)
  replace HO_g0 := hide (K0.oext (unhide HO_g0) F22)
  replace HEw := hide ((unhide HEw).trans F22)
  have c_x1_0 : w21.cell? ⟨w11.heap.size, 0, none⟩ = some (.string x1_0) := cells_of (unhide HB_x1) 0 _ rfl
  have c_x1_1 : w21.cell? ⟨w11.heap.size, 1, none⟩ = some (.string x1_1) := cells_of (unhide HB_x1) 1 _ rfl
  have c_x1_2 : w21.cell? ⟨w11.heap.size, 2, none⟩ = some (.string x1_2) := cells_of (unhide HB_x1) 2 _ rfl
  have c_x1_3 : w21.cell? ⟨w11.heap.size, 3, none⟩ = some (.slice x1_3a x1_3n x1_3c) := cells_of (unhide HB_x1) 3 _ rfl
  have c_p_0 : w21.cell? ⟨w.heap.size, 0, none⟩ = some (.string p1_0) := cells_of (unhide HB_p) 0 _ rfl
  have c_p_1 : w21.cell? ⟨w.heap.size, 1, none⟩ = some (.string p1_1) := cells_of (unhide HB_p) 1 _ rfl
  have c_p_2 : w21.cell? ⟨w.heap.size, 2, none⟩ = some (.string p1_2) := cells_of (unhide HB_p) 2 _ rfl
  have c_p_3 : w21.cell? ⟨w.heap.size, 3, none⟩ = some (.slice p1_3a p1_3n p1_3c) := cells_of (unhide HB_p) 3 _ rfl
  go_wp2
  have HTt := hide (fun U (hU : Ext w21 U) => (unhide HTo1) U (E.trans hU))
  go_region_held3 (fun W => W.cell? ⟨w11.heap.size, 0, none⟩ = some (.string x1_0) ∧ W.cell? ⟨w11.heap.size, 1, none⟩ = some (.string x1_1) ∧ W.cell? ⟨w11.heap.size, 2, none⟩ = some (.string x1_2) ∧ W.cell? ⟨w11.heap.size, 3, none⟩ = some (.slice x1_3a x1_3n x1_3c) ∧ W.cell? ⟨w.heap.size, 0, none⟩ = some (.string p1_0) ∧ W.cell? ⟨w.heap.size, 1, none⟩ = some (.string p1_1) ∧ W.cell? ⟨w.heap.size, 2, none⟩ = some (.string p1_2) ∧ W.cell? ⟨w.heap.size, 3, none⟩ = some (.slice p1_3a p1_3n p1_3c)) (first | exact ⟨c_x1_0, c_x1_1, c_x1_2, c_x1_3, c_p_0, c_p_1, c_p_2, c_p_3⟩ | exact ⟨he'.cell c_x1_0, he'.cell c_x1_1, he'.cell c_x1_2, he'.cell c_x1_3, he'.cell c_p_0, he'.cell c_p_1, he'.cell c_p_2, he'.cell c_p_3⟩)
    (first
      | (go_at_call 27; refine ((unhide HTt) _ (Ext.refl w21).drew).mono ?_; rintro e w24 ⟨uT, ST, rfl, oT, FT⟩; have he' := (Ext.refl w21).drew.trans FT; obtain ⟨yx0, yx1, yx2, yx3a, yx3n, yx3c, rfl⟩ := (unhide ShX1) _ _ (X1.reads oT); have RT := hide (X1.reads oT); clear oT FT)
      | (go_at_call 29; refine ((unhide HEqX1) _ _ _ (X1.rext (X1.reads (unhide HO_x1)) he') (unhide RT)).mono ?_; rintro e w25 ⟨rfl, FE⟩; have he' := he'.trans FE; clear FE))
  clear HTt RT c_x1_0 c_x1_1 c_x1_2 c_x1_3 c_p_0 c_p_1 c_p_2 c_p_3
  have F26 := he'
  clear he'
  have hs27 := hide (F26).size
  replace E := E.trans F26
  replace HB_p := hide ((F26).kept (unhide HB_p))
  replace HB_w0 := hide ((F26).kept (unhide HB_w0))
  replace HB_x1 := hide ((F26).kept (unhide HB_x1))
  replace HB_g0 := hide ((F26).kept (unhide HB_g0))
  replace HO_x1 := hide (X1.oext (unhide HO_x1) F26)
  replace HO_g0 := hide (K0.oext (unhide HO_g0) F26)
  replace HEw := hide ((unhide HEw).trans F26)
  have c_x1_0 : w25.cell? ⟨w11.heap.size, 0, none⟩ = some (.string x1_0) := cells_of (unhide HB_x1) 0 _ rfl
  have c_x1_1 : w25.cell? ⟨w11.heap.size, 1, none⟩ = some (.string x1_1) := cells_of (unhide HB_x1) 1 _ rfl
  have c_x1_2 : w25.cell? ⟨w11.heap.size, 2, none⟩ = some (.string x1_2) := cells_of (unhide HB_x1) 2 _ rfl
  have c_x1_3 : w25.cell? ⟨w11.heap.size, 3, none⟩ = some (.slice x1_3a x1_3n x1_3c) := cells_of (unhide HB_x1) 3 _ rfl
  go_wp2_with fail
  clear c_x1_0 c_x1_1 c_x1_2 c_x1_3
  refine ((unhide HMkX1) _ _ _ _ _ (unhide HO_x1) (by omega) (by omega)).mono ?_
  rintro e w28 ⟨rfl, om, F29⟩
  replace E := F29.ext E (fun _ h9 => by have b9 := (unhide HL_x1) _ h9; have z0 := unhide hzW0; have z1 := unhide hs2; have z2 := unhide hs5; have z3 := unhide hs8; have z4 := unhide hzV9; have z5 := unhide hs10; have z6 := unhide hs13; have z7 := unhide hzV14; have z8 := unhide hs15; have z9 := unhide hs18; have z10 := unhide hzV19; have z11 := unhide hs20; have z12 := unhide hs23; have z13 := unhide hs27; omega)
  replace HEw := hide (F29.ext (unhide HEw) (fun _ h9 => by have b9 := (unhide HL_x1) _ h9; have z0 := unhide hzW0; have z1 := unhide hs2; have z2 := unhide hs5; have z3 := unhide hs8; have z4 := unhide hzV9; have z5 := unhide hs10; have z6 := unhide hs13; have z7 := unhide hzV14; have z8 := unhide hs15; have z9 := unhide hs18; have z10 := unhide hzV19; have z11 := unhide hs20; have z12 := unhide hs23; have z13 := unhide hs27; omega))
  replace HB_p := hide (F29.kept (unhide HB_p) (fun h9 => by have b9 := (unhide HL_x1) _ h9; have z0 := unhide hzW0; have z1 := unhide hs2; have z2 := unhide hs5; have z3 := unhide hs8; have z4 := unhide hzV9; have z5 := unhide hs10; have z6 := unhide hs13; have z7 := unhide hzV14; have z8 := unhide hs15; have z9 := unhide hs18; have z10 := unhide hzV19; have z11 := unhide hs20; have z12 := unhide hs23; have z13 := unhide hs27; omega))
  replace HB_w0 := hide (F29.kept (unhide HB_w0) (fun h9 => by have b9 := (unhide HL_x1) _ h9; have z0 := unhide hzW0; have z1 := unhide hs2; have z2 := unhide hs5; have z3 := unhide hs8; have z4 := unhide hzV9; have z5 := unhide hs10; have z6 := unhide hs13; have z7 := unhide hzV14; have z8 := unhide hs15; have z9 := unhide hs18; have z10 := unhide hzV19; have z11 := unhide hs20; have z12 := unhide hs23; have z13 := unhide hs27; omega))
  replace HB_x1 := hide (F29.kept (unhide HB_x1) (fun h9 => by have b9 := (unhide HL_x1) _ h9; have z0 := unhide hzW0; have z1 := unhide hs2; have z2 := unhide hs5; have z3 := unhide hs8; have z4 := unhide hzV9; have z5 := unhide hs10; have z6 := unhide hs13; have z7 := unhide hzV14; have z8 := unhide hs15; have z9 := unhide hs18; have z10 := unhide hzV19; have z11 := unhide hs20; have z12 := unhide hs23; have z13 := unhide hs27; omega))
  replace HB_g0 := hide (F29.kept (unhide HB_g0) (fun h9 => by have b9 := (unhide HL_x1) _ h9; have z0 := unhide hzW0; have z1 := unhide hs2; have z2 := unhide hs5; have z3 := unhide hs8; have z4 := unhide hzV9; have z5 := unhide hs10; have z6 := unhide hs13; have z7 := unhide hzV14; have z8 := unhide hs15; have z9 := unhide hs18; have z10 := unhide hzV19; have z11 := unhide hs20; have z12 := unhide hs23; have z13 := unhide hs27; omega))
  replace HO_g0 := hide (K0.ofr (unhide HO_g0) F29 (fun q9 h8 h9 => by have b8 := (unhide HL_g0) q9 h8; have b9 := (unhide HL_x1) q9 h9; have z0 := unhide hzW0; have z1 := unhide hs2; have z2 := unhide hs5; have z3 := unhide hs8; have z4 := unhide hzV9; have z5 := unhide hs10; have z6 := unhide hs13; have z7 := unhide hzV14; have z8 := unhide hs15; have z9 := unhide hs18; have z10 := unhide hzV19; have z11 := unhide hs20; have z12 := unhide hs23; have z13 := unhide hs27; omega))
  have hs30 := hide F29.size
  replace HO_x1 := hide om
  clear om
  have hkk : ¬ (1 + (mX1 : Int) : Int) < 0 := by omega
  clear HO_x1
  clear HB_x1
  have c_g0_0 : w28.cell? ⟨w16.heap.size, 0, none⟩ = some (.slice g0_0a g0_0n g0_0c) := cells_of (unhide HB_g0) 0 _ rfl
  have c_g0_1 : w28.cell? ⟨w16.heap.size, 1, none⟩ = some (.int .i64 g0_1) := cells_of (unhide HB_g0) 1 _ rfl
  have c_g0_2 : w28.cell? ⟨w16.heap.size, 2, none⟩ = some (.int .i64 g0_2) := cells_of (unhide HB_g0) 2 _ rfl
  have c_w0_0 : w28.cell? ⟨w6.heap.size, 0, none⟩ = some (.slice w0_0a w0_0n w0_0c) := cells_of (unhide HB_w0) 0 _ rfl
  have c_w0_1 : w28.cell? ⟨w6.heap.size, 1, none⟩ = some (.int .i64 w0_1) := cells_of (unhide HB_w0) 1 _ rfl
  have c_w0_2 : w28.cell? ⟨w6.heap.size, 2, none⟩ = some (.int .i64 w0_2) := cells_of (unhide HB_w0) 2 _ rfl
  go_wp2_with fail
  clear c_g0_0 c_g0_1 c_g0_2 c_w0_0 c_w0_1 c_w0_2
  refine ((unhide HEqK0) _ _ _ (K0.reads (unhide HO_g0)) (K0.rext (unhide HR_w0) (unhide HEw))).mono ?_
  rintro e w31 ⟨rfl, F32⟩
  have hs33 := hide (F32).size
  replace E := E.trans F32
  replace HB_p := hide ((F32).kept (unhide HB_p))
  replace HB_w0 := hide ((F32).kept (unhide HB_w0))
  replace HB_g0 := hide ((F32).kept (unhide HB_g0))
  replace HO_g0 := hide (K0.oext (unhide HO_g0) F32)
  replace HEw := hide ((unhide HEw).trans F32)
  have c_g0_0 : w31.cell? ⟨w16.heap.size, 0, none⟩ = some (.slice g0_0a g0_0n g0_0c) := cells_of (unhide HB_g0) 0 _ rfl
  have c_g0_1 : w31.cell? ⟨w16.heap.size, 1, none⟩ = some (.int .i64 g0_1) := cells_of (unhide HB_g0) 1 _ rfl
  have c_g0_2 : w31.cell? ⟨w16.heap.size, 2, none⟩ = some (.int .i64 g0_2) := cells_of (unhide HB_g0) 2 _ rfl
  go_wp2_with fail
  clear c_g0_0 c_g0_1 c_g0_2
  refine ((unhide HMkK0) _ _ _ _ _ (unhide HO_g0) (by omega) (by omega)).mono ?_
  rintro e w34 ⟨rfl, om, F35⟩
  replace E := F35.ext E (fun _ h9 => by have b9 := (unhide HL_g0) _ h9; have z0 := unhide hzW0; have z1 := unhide hs2; have z2 := unhide hs5; have z3 := unhide hs8; have z4 := unhide hzV9; have z5 := unhide hs10; have z6 := unhide hs13; have z7 := unhide hzV14; have z8 := unhide hs15; have z9 := unhide hs18; have z10 := unhide hzV19; have z11 := unhide hs20; have z12 := unhide hs23; have z13 := unhide hs27; have z14 := unhide hs30; have z15 := unhide hs33; omega)
  replace HEw := hide (F35.ext (unhide HEw) (fun _ h9 => by have b9 := (unhide HL_g0) _ h9; have z0 := unhide hzW0; have z1 := unhide hs2; have z2 := unhide hs5; have z3 := unhide hs8; have z4 := unhide hzV9; have z5 := unhide hs10; have z6 := unhide hs13; have z7 := unhide hzV14; have z8 := unhide hs15; have z9 := unhide hs18; have z10 := unhide hzV19; have z11 := unhide hs20; have z12 := unhide hs23; have z13 := unhide hs27; have z14 := unhide hs30; have z15 := unhide hs33; omega))
  replace HB_p := hide (F35.kept (unhide HB_p) (fun h9 => by have b9 := (unhide HL_g0) _ h9; have z0 := unhide hzW0; have z1 := unhide hs2; have z2 := unhide hs5; have z3 := unhide hs8; have z4 := unhide hzV9; have z5 := unhide hs10; have z6 := unhide hs13; have z7 := unhide hzV14; have z8 := unhide hs15; have z9 := unhide hs18; have z10 := unhide hzV19; have z11 := unhide hs20; have z12 := unhide hs23; have z13 := unhide hs27; have z14 := unhide hs30; have z15 := unhide hs33; omega))
  replace HB_w0 := hide (F35.kept (unhide HB_w0) (fun h9 => by have b9 := (unhide HL_g0) _ h9; have z0 := unhide hzW0; have z1 := unhide hs2; have z2 := unhide hs5; have z3 := unhide hs8; have z4 := unhide hzV9; have z5 := unhide hs10; have z6 := unhide hs13; have z7 := unhide hzV14; have z8 := unhide hs15; have z9 := unhide hs18; have z10 := unhide hzV19; have z11 := unhide hs20; have z12 := unhide hs23; have z13 := unhide hs27; have z14 := unhide hs30; have z15 := unhide hs33; omega))
  replace HB_g0 := hide (F35.kept (unhide HB_g0) (fun h9 => by have b9 := (unhide HL_g0) _ h9; have z0 := unhide hzW0; have z1 := unhide hs2; have z2 := unhide hs5; have z3 := unhide hs8; have z4 := unhide hzV9; have z5 := unhide hs10; have z6 := unhide hs13; have z7 := unhide hzV14; have z8 := unhide hs15; have z9 := unhide hs18; have z10 := unhide hzV19; have z11 := unhide hs20; have z12 := unhide hs23; have z13 := unhide hs27; have z14 := unhide hs30; have z15 := unhide hs33; omega))
  have hs36 := hide F35.size
  replace HO_g0 := hide om
  clear om
  have hq0 : ¬ (1 + (mK0 : Int) : Int) < 0 := by omega
  have c_g0_0 : w34.cell? ⟨w16.heap.size, 0, none⟩ = some (.slice g0_0a g0_0n g0_0c) := cells_of (unhide HB_g0) 0 _ rfl
  have c_g0_1 : w34.cell? ⟨w16.heap.size, 1, none⟩ = some (.int .i64 g0_1) := cells_of (unhide HB_g0) 1 _ rfl
  have c_g0_2 : w34.cell? ⟨w16.heap.size, 2, none⟩ = some (.int .i64 g0_2) := cells_of (unhide HB_g0) 2 _ rfl
  go_wp2_with fail
  clear c_g0_0 c_g0_1 c_g0_2
  refine ((unhide HHdK0) _ _ _ ((MK0 (1)).reads (unhide HO_g0)) (by omega) (by omega)).mono ?_
  rintro e w37 ⟨rfl, F38⟩
  have hs39 := hide (F38).size
  replace E := E.trans F38
  replace HB_p := hide ((F38).kept (unhide HB_p))
  replace HB_w0 := hide ((F38).kept (unhide HB_w0))
  replace HB_g0 := hide ((F38).kept (unhide HB_g0))
  replace HO_g0 := hide ((MK0 (1)).oext (unhide HO_g0) F38)
  replace HEw := hide ((unhide HEw).trans F38)
  have c_p_0 : w37.cell? ⟨w.heap.size, 0, none⟩ = some (.string p1_0) := cells_of (unhide HB_p) 0 _ rfl
  have c_p_1 : w37.cell? ⟨w.heap.size, 1, none⟩ = some (.string p1_1) := cells_of (unhide HB_p) 1 _ rfl
  have c_p_2 : w37.cell? ⟨w.heap.size, 2, none⟩ = some (.string p1_2) := cells_of (unhide HB_p) 2 _ rfl
  have c_p_3 : w37.cell? ⟨w.heap.size, 3, none⟩ = some (.slice p1_3a p1_3n p1_3c) := cells_of (unhide HB_p) 3 _ rfl
  go_wp2_with fail
  clear c_p_0 c_p_1 c_p_2 c_p_3
  refine ((unhide HTo1) _ E).mono ?_
  rintro e w40 ⟨ut1, St1, rfl, ot1, F41⟩
  have HL_t1 : Hid (∀ g, St1 g → w37.heap.size ≤ g ∧ g < w40.heap.size) := hide (X1.lt ot1)
  have hs42 := hide (F41).size
  replace E := E.trans F41
  replace HB_p := hide ((F41).kept (unhide HB_p))
  replace HB_w0 := hide ((F41).kept (unhide HB_w0))
  replace HB_g0 := hide ((F41).kept (unhide HB_g0))
  replace HO_g0 := hide ((MK0 (1)).oext (unhide HO_g0) F41)
  replace HEw := hide ((unhide HEw).trans F41)
  obtain ⟨t1_0, t1_1, t1_2, t1_3a, t1_3n, t1_3c, rfl⟩ := (unhide ShX1) _ _ (X1.reads ot1)
  have HO_t1 := hide ot1
  clear ot1
  go_wp2_with fail
  refine ((unhide HI) _ _ E (X1.reads (unhide HO_t1))).mono ?_
  rintro e w43 ⟨uh0, Sh0, rfl, oh0, F44⟩
  have HL_h0 : Hid (∀ g, Sh0 g → w40.heap.size ≤ g ∧ g < w43.heap.size) := hide (K0.lt oh0)
  have hs45 := hide (F44).size
  replace E := E.trans F44
  replace HB_p := hide ((F44).kept (unhide HB_p))
  replace HB_w0 := hide ((F44).kept (unhide HB_w0))
  replace HB_g0 := hide ((F44).kept (unhide HB_g0))
  replace HO_g0 := hide ((MK0 (1)).oext (unhide HO_g0) F44)
  replace HO_t1 := hide (X1.oext (unhide HO_t1) F44)
  replace HEw := hide ((unhide HEw).trans F44)
  obtain ⟨h0_0a, h0_0n, h0_0c, h0_1, h0_2, rfl⟩ := (unhide ShK0) _ _ (K0.reads oh0)
  have HO_h0 := hide oh0
  clear oh0
  clear HO_t1
  have c_w0_0 : ∀ o0, (w43.alloc o0).cell? ⟨w6.heap.size, 0, none⟩ = some (.slice w0_0a w0_0n w0_0c) := fun o0 => ((Ext.refl w43).alloc o0).cell (cells_of (unhide HB_w0) 0 _ rfl)
  have c_w0_1 : ∀ o0, (w43.alloc o0).cell? ⟨w6.heap.size, 1, none⟩ = some (.int .i64 w0_1) := fun o0 => ((Ext.refl w43).alloc o0).cell (cells_of (unhide HB_w0) 1 _ rfl)
  have c_w0_2 : ∀ o0, (w43.alloc o0).cell? ⟨w6.heap.size, 2, none⟩ = some (.int .i64 w0_2) := fun o0 => ((Ext.refl w43).alloc o0).cell (cells_of (unhide HB_w0) 2 _ rfl)
  go_wp2_with fail
  clear c_w0_0 c_w0_1 c_w0_2
  obtain ⟨V46, hV46⟩ : ∃ V46, V46 = w43.alloc (.cells #[.slice h0_0a h0_0n h0_0c, .int .i64 h0_1, .int .i64 h0_2] 62) := ⟨_, rfl⟩
  rw [← hV46]
  have FV46 : Ext w43 V46 := by rw [hV46]; exact (Ext.refl w43).alloc _
  have HB_h0 : Hid (V46.heap[w43.heap.size]? = some (.cells #[.slice h0_0a h0_0n h0_0c, .int .i64 h0_1, .int .i64 h0_2] 62 (0, 0))) := hide (by rw [hV46]; exact new_block w43 _)
  have hzV46 := hide (lt_of_block (unhide HB_h0))
  clear hV46
  have hs47 := hide (FV46).size
  replace E := E.trans FV46
  replace HB_p := hide ((FV46).kept (unhide HB_p))
  replace HB_w0 := hide ((FV46).kept (unhide HB_w0))
  replace HB_g0 := hide ((FV46).kept (unhide HB_g0))
  replace HO_g0 := hide ((MK0 (1)).oext (unhide HO_g0) FV46)
  replace HO_h0 := hide (K0.oext (unhide HO_h0) FV46)
  replace HEw := hide ((unhide HEw).trans FV46)
  refine ((unhide HEqK0) _ _ _ (K0.reads (unhide HO_h0)) (K0.rext (unhide HR_w0) (unhide HEw))).mono ?_
  rintro e w48 ⟨rfl, F49⟩
  have hs50 := hide (F49).size
  replace E := E.trans F49
  replace HB_p := hide ((F49).kept (unhide HB_p))
  replace HB_w0 := hide ((F49).kept (unhide HB_w0))
  replace HB_g0 := hide ((F49).kept (unhide HB_g0))
  replace HB_h0 := hide ((F49).kept (unhide HB_h0))
  replace HO_g0 := hide ((MK0 (1)).oext (unhide HO_g0) F49)
  replace HO_h0 := hide (K0.oext (unhide HO_h0) F49)
  replace HEw := hide ((unhide HEw).trans F49)
  have hq0 : ¬ (1 + (mK0 : Int) : Int) < 0 := by omega
  have c_g0_0 : w48.cell? ⟨w16.heap.size, 0, none⟩ = some (.slice g0_0a g0_0n g0_0c) := cells_of (unhide HB_g0) 0 _ rfl
  have c_g0_1 : w48.cell? ⟨w16.heap.size, 1, none⟩ = some (.int .i64 g0_1) := cells_of (unhide HB_g0) 1 _ rfl
  have c_g0_2 : w48.cell? ⟨w16.heap.size, 2, none⟩ = some (.int .i64 g0_2) := cells_of (unhide HB_g0) 2 _ rfl
  go_wp2_with fail
  clear c_g0_0 c_g0_1 c_g0_2
  refine ((unhide HHdK0) _ _ _ ((MK0 (1)).reads (unhide HO_g0)) (by omega) (by omega)).mono ?_
  rintro e w51 ⟨rfl, F52⟩
  have hs53 := hide (F52).size
  replace E := E.trans F52
  replace HB_p := hide ((F52).kept (unhide HB_p))
  replace HB_w0 := hide ((F52).kept (unhide HB_w0))
  replace HB_g0 := hide ((F52).kept (unhide HB_g0))
  replace HB_h0 := hide ((F52).kept (unhide HB_h0))
  replace HO_g0 := hide ((MK0 (1)).oext (unhide HO_g0) F52)
  replace HO_h0 := hide (K0.oext (unhide HO_h0) F52)
  replace HEw := hide ((unhide HEw).trans F52)
  go_wp2
  go_ret
  exact ⟨rfl, E.below⟩
end Go.Proofs.YtlnmpbdnmlpkiaaDoor
