import Derived.Test.YtinfdhbnljnifaaGreatDoorSnapMark
import Derived.Test.YtinfdhbnljnifaaGreatDoorSzB
import Derived.Test.YtinfdhbnljnifaaGreatDoorCameScr
import Derived.Lib.ItoaNum
import Derived.Lib.Join
import Derived.Test.YtinfdhbnljnifaaGreatDoorBlocks
import Derived.Deep.RegionHeld3
namespace Go.Proofs.YtinfdhbnljnifaaGreatDoor
open Go.RowKit
theorem Fr.tr {S : Nat → Prop} {a b c : World} (h : Fr S a b) (k : Fr S b c) : Fr S a c :=
  ⟨k.os.trans h.os, k.tape.trans h.tape, k.output.trans h.output, Nat.le_trans h.size k.size, fun i hi hn => (k.block i (Nat.lt_of_lt_of_le hi h.size) hn).trans (h.block i hi hn)⟩
end Go.Proofs.YtinfdhbnljnifaaGreatDoor

namespace Go.Proofs.YtinfdhbnljnifaaGreatDoor
open Go.RowKit
structure Kd where
  R : World → Value → Prop
  O : World → Nat → (Nat → Prop) → Value → Prop
  rext : ∀ {w w' : World} {v : Value}, R w v → Ext w w' → R w' v
  oext : ∀ {w w' : World} {b : Nat} {S : Nat → Prop} {v : Value}, O w b S v → Ext w w' → O w' b S v
  ofr : ∀ {w w' : World} {b : Nat} {S S' : Nat → Prop} {v : Value}, O w b S v → Fr S' w w' → (∀ g, S g → ¬ S' g) → O w' b S v
  reads : ∀ {w : World} {b : Nat} {S : Nat → Prop} {v : Value}, O w b S v → R w v
  lt : ∀ {w : World} {b : Nat} {S : Nat → Prop} {v : Value}, O w b S v → ∀ g, S g → b ≤ g ∧ g < w.heap.size
def EqOk (F : Nat) (K : Kd) : Prop := ∀ (w : World) (a b : Value), K.R w a → K.R w b → Calls Tryz.prog F #[a, b] w fun e w' => e = .returned (.bool true) ∧ Ext w w'
def MarkOk (F : Nat) (K : Kd) (M : Int → Kd) (m : Nat) : Prop :=
  ∀ (w : World) (b : Nat) (S : Nat → Prop) (v : Value) (k : Int), K.O w b S v → 0 ≤ k → k ≤ 68719476736 → Calls Tryz.prog F #[v, .int .i64 k] w fun e w' => e = .returned (.int .i64 (k + (m : Int))) ∧ (M k).O w' b S v ∧ Fr S w w'
def HeldOk (F : Nat) (M : Int → Kd) (m : Nat) : Prop :=
  ∀ (w : World) (v : Value) (k : Int), (M k).R w v → 0 ≤ k → k ≤ 68719476736 → Calls Tryz.prog F #[v, .int .i64 k] w fun e w' => e = .returned (.int .i64 (k + (m : Int))) ∧ Ext w w'
theorem Fr.kept {S : Nat → Prop} {w w' : World} {p : Nat} {o : Obj} (h : Fr S w w') (hp : w.heap[p]? = some o) (hS : ¬ S p) : w'.heap[p]? = some o := (h.block p (Array.getElem?_eq_some_iff.1 hp).1 hS).trans hp
theorem lt_of_block {w : World} {p : Nat} {o : Obj} (h : w.heap[p]? = some o) : p < w.heap.size := (Array.getElem?_eq_some_iff.1 h).1
def bytesK (zs : List Int) : Kd where
  R w v := IntsAt w .u8 v zs
  O w b S v := w.ownsRow b 5 1 v zs.length (zs.map (Value.int .u8)) ∧ ∀ g, S g ↔ v.ownBlock = some g
  rext h e := h.ext e
  oext h e := ⟨e.owns h.1, h.2⟩
  ofr h f d := ⟨f.owns h.1 (fun g hg => d g ((h.2 g).2 hg)), h.2⟩
  reads h := ints_of_owns h.1
  lt h g hg := h.1.lt g ((h.2 g).1 hg)
theorem bytesK_shape {zs : List Int} {w : World} {v : Value} (h : (bytesK zs).R w v) : ∃ a c, v = .slice a zs.length c := by
  obtain ⟨a, c, e, _⟩ := h
  exact ⟨a, c, e⟩
theorem bytesK_own {zs : List Int} {w : World} {b : Nat} {v : Value} (h : w.ownsRow b 5 1 v zs.length (zs.map (Value.int .u8))) : (bytesK zs).O w b (fun g => v.ownBlock = some g) v := ⟨h, fun _ => Iff.rfl⟩
theorem bytesK_eq (zs : List Int) (hn : zs.length ≤ 4398046511104) : EqOk 18 (bytesK zs) := fun w a b ha hb => eqByteS_same a b zs w ha hb hn
theorem bytesK_mark (zs : List Int) (hn : zs.length ≤ 1099511627776) : MarkOk 20 (bytesK zs) (fun k => bytesK (mkU8 k zs.length)) zs.length := fun w b S v k h h0 h1 => by
  refine (markByteS_any b v zs.length _ k w h.1 (by omega) h0 (by omega)).mono ?_
  rintro e w' ⟨rfl, o, f⟩
  have o2 : w'.ownsRow b 5 1 v (mkU8 k zs.length).length ((mkU8 k zs.length).map (Value.int .u8)) := by rw [mkU8_len]; exact o
  exact ⟨rfl, ⟨o2, h.2⟩, ((Fr.refl _ w).grown f (fun g hg => (h.2 g).2 hg))⟩
end Go.Proofs.YtinfdhbnljnifaaGreatDoor

namespace Go.Proofs.YtinfdhbnljnifaaGreatDoor
open Go.RowKit
set_option maxRecDepth 10000 in
set_option maxHeartbeats 8000000 in
theorem law_Feed (p0_0 : Int) (p0_1 : Int) (p0_2a : Option Addr) (p0_2n : Nat) (p0_2c : Nat) (p0_3 : Int) (p0_4 : Int) (p0_5 : Bool) (p0_6a : Option Addr) (p0_6n : Nat) (p0_6c : Nat) (p0_7a : Option Addr) (p0_7n : Nat) (p0_7c : Nat) (p1_a : Option Addr) (p1_n : Nat) (p1_c : Nat) (w : World)
    (hlen1 : p1_n ≤ 1048576)
    (X0 : Kd) (MX0 : Int → Kd) (mX0 : Nat)
    (X1 : Kd) (MX1 : Int → Kd) (mX1 : Nat)
    (K0 : Kd) (MK0 : Int → Kd) (mK0 : Nat)
    (Fit : Prop)
    (HZ : Hid (∀ W, Ext w W → Calls Tryz.prog 14 #[.agg #[.int .i64 p0_0, .int .i64 p0_1, .slice p0_2a p0_2n p0_2c, .int .i64 p0_3, .int .i64 p0_4, .bool p0_5, .slice p0_6a p0_6n p0_6c, .slice p0_7a p0_7n p0_7c], .int .i64 1048576] W fun e w' => ∃ r : Int, e = .returned (.int .i64 r) ∧ (0 ≤ r → Fit) ∧ Ext W w'))
    (HTo0' : Hid (Fit → ∀ W, Ext w W → Calls Tryz.prog 15 #[.agg #[.int .i64 p0_0, .int .i64 p0_1, .slice p0_2a p0_2n p0_2c, .int .i64 p0_3, .int .i64 p0_4, .bool p0_5, .slice p0_6a p0_6n p0_6c, .slice p0_7a p0_7n p0_7c]] W fun e w' => ∃ u S, e = .returned u ∧ X0.O w' W.heap.size S u ∧ Ext W w'))
    (ShX0 : Hid (∀ W u, X0.R W u → ∃ (x0 : Int) (x1 : Int) (x2a : Option Addr) (x2n : Nat) (x2c : Nat) (x3 : Int) (x4 : Int) (x5 : Bool) (x6a : Option Addr) (x6n : Nat) (x6c : Nat) (x7a : Option Addr) (x7n : Nat) (x7c : Nat), u = .agg #[.int .i64 x0, .int .i64 x1, .slice x2a x2n x2c, .int .i64 x3, .int .i64 x4, .bool x5, .slice x6a x6n x6c, .slice x7a x7n x7c]))
    (HEqX0' : Hid (Fit → EqOk 17 X0)) (HMkX0' : Hid (Fit → MarkOk 19 X0 MX0 mX0 ∧ mX0 ≤ 17179869184))
    (HTo1' : Hid (Fit → ∀ W, Ext w W → Calls Tryz.prog 16 #[.slice p1_a p1_n p1_c] W fun e w' => ∃ u S, e = .returned u ∧ X1.O w' W.heap.size S u ∧ Ext W w'))
    (ShX1 : Hid (∀ W u, X1.R W u → ∃ (xa : Option Addr) (xn : Nat) (xc : Nat), u = .slice xa xn xc))
    (HEqX1' : Hid (Fit → EqOk 18 X1)) (HMkX1' : Hid (Fit → MarkOk 20 X1 MX1 mX1 ∧ mX1 ≤ 17179869184))
    (HS' : Hid (Fit → ∀ (W : World) (u0 : Value) (u1 : Value), Ext w W → X0.R W u0 → X1.R W u1 → Calls Tryz.prog 7 #[u0, u1] W fun e w' => ∃ v0, e = .returned (v0) ∧ K0.R w' v0 ∧ Ext W w'))
    (HI' : Hid (Fit → ∀ (W : World) (u0 : Value) (u1 : Value), Ext w W → X0.R W u0 → X1.R W u1 → Calls Tryz.prog 8 #[u0, u1] W fun e w' => ∃ v0 S0, e = .returned (v0) ∧ K0.O w' W.heap.size S0 v0 ∧ Ext W w'))
    (ShK0 : Hid (∀ W u, K0.R W u → ∃ (x0 : Int) (x1 : Int) (x2a : Option Addr) (x2n : Nat) (x2c : Nat) (x3 : Int) (x4 : Int) (x5 : Bool) (x6a : Option Addr) (x6n : Nat) (x6c : Nat) (x7a : Option Addr) (x7n : Nat) (x7c : Nat), u = .agg #[.int .i64 x0, .int .i64 x1, .slice x2a x2n x2c, .int .i64 x3, .int .i64 x4, .bool x5, .slice x6a x6n x6c, .slice x7a x7n x7c]))
    (HEqK0' : Hid (Fit → EqOk 17 K0)) (HMkK0' : Hid (Fit → MarkOk 19 K0 MK0 mK0 ∧ mK0 ≤ 17179869184)) (HHdK0' : Hid (Fit → HeldOk 21 MK0 mK0))
    : Calls Tryz.prog 4 #[.agg #[.int .i64 p0_0, .int .i64 p0_1, .slice p0_2a p0_2n p0_2c, .int .i64 p0_3, .int .i64 p0_4, .bool p0_5, .slice p0_6a p0_6n p0_6c, .slice p0_7a p0_7n p0_7c], .slice p1_a p1_n p1_c] w fun e w' => e = .returned (.bool true) ∧ Below w.heap.size w w' := by
  have hlI1 : ¬ (1048576 : Int) < (p1_n : Int) := by omega
  go_enter Tryz.func4, Tryz.ntmps4
  go_wp2_with fail
  obtain ⟨W0, hW0⟩ : ∃ W0, W0 = w.alloc (.cells #[.int .i64 p0_0, .int .i64 p0_1, .slice p0_2a p0_2n p0_2c, .int .i64 p0_3, .int .i64 p0_4, .bool p0_5, .slice p0_6a p0_6n p0_6c, .slice p0_7a p0_7n p0_7c] 38) := ⟨_, rfl⟩
  rw [← hW0]
  have E : Ext w W0 := by rw [hW0]; exact (Ext.refl w).alloc _
  have HB_p : Hid (W0.heap[w.heap.size]? = some (.cells #[.int .i64 p0_0, .int .i64 p0_1, .slice p0_2a p0_2n p0_2c, .int .i64 p0_3, .int .i64 p0_4, .bool p0_5, .slice p0_6a p0_6n p0_6c, .slice p0_7a p0_7n p0_7c] 38 (0, 0))) := hide (by rw [hW0]; exact new_block w _)
  have hzW0 := hide (lt_of_block (unhide HB_p))
  clear hW0
  refine ((unhide HZ) _ E).mono ?_
  rintro e w1 ⟨r, rfl, hr, F1⟩
  have hs2 := hide (F1).size
  replace E := E.trans F1
  replace HB_p := hide ((F1).kept (unhide HB_p))
  by_cases hr0 : r < 0
  · go_wp2
    go_ret
    exact ⟨rfl, E.below⟩
  have hfit : Fit := hr (by omega)
  clear hr HZ
  have HTo0 := hide ((unhide HTo0') hfit)
  have HEqX0 := hide ((unhide HEqX0') hfit)
  have HMkX0 := hide ((unhide HMkX0') hfit).1
  have hmX0 := ((unhide HMkX0') hfit).2
  clear HMkX0'
  clear HTo0' HEqX0'
  have HTo1 := hide ((unhide HTo1') hfit)
  have HEqX1 := hide ((unhide HEqX1') hfit)
  have HMkX1 := hide ((unhide HMkX1') hfit).1
  have hmX1 := ((unhide HMkX1') hfit).2
  clear HMkX1'
  clear HTo1' HEqX1'
  have HEqK0 := hide ((unhide HEqK0') hfit)
  have HMkK0 := hide ((unhide HMkK0') hfit).1
  have hmK0 := ((unhide HMkK0') hfit).2
  have HHdK0 := hide ((unhide HHdK0') hfit)
  clear HEqK0' HMkK0' HHdK0'
  have HS := hide ((unhide HS') hfit)
  have HI := hide ((unhide HI') hfit)
  clear HS' HI' hfit
  have c_p_0 : w1.cell? ⟨w.heap.size, 0, none⟩ = some (.int .i64 p0_0) := cells_of (unhide HB_p) 0 _ rfl
  have c_p_1 : w1.cell? ⟨w.heap.size, 1, none⟩ = some (.int .i64 p0_1) := cells_of (unhide HB_p) 1 _ rfl
  have c_p_2 : w1.cell? ⟨w.heap.size, 2, none⟩ = some (.slice p0_2a p0_2n p0_2c) := cells_of (unhide HB_p) 2 _ rfl
  have c_p_3 : w1.cell? ⟨w.heap.size, 3, none⟩ = some (.int .i64 p0_3) := cells_of (unhide HB_p) 3 _ rfl
  have c_p_4 : w1.cell? ⟨w.heap.size, 4, none⟩ = some (.int .i64 p0_4) := cells_of (unhide HB_p) 4 _ rfl
  have c_p_5 : w1.cell? ⟨w.heap.size, 5, none⟩ = some (.bool p0_5) := cells_of (unhide HB_p) 5 _ rfl
  have c_p_6 : w1.cell? ⟨w.heap.size, 6, none⟩ = some (.slice p0_6a p0_6n p0_6c) := cells_of (unhide HB_p) 6 _ rfl
  have c_p_7 : w1.cell? ⟨w.heap.size, 7, none⟩ = some (.slice p0_7a p0_7n p0_7c) := cells_of (unhide HB_p) 7 _ rfl
  go_wp2_with fail
  clear c_p_0 c_p_1 c_p_2 c_p_3 c_p_4 c_p_5 c_p_6 c_p_7
  refine ((unhide HTo0) _ E).mono ?_
  rintro e w3 ⟨ut0, St0, rfl, ot0, F4⟩
  have HL_t0 : Hid (∀ g, St0 g → w1.heap.size ≤ g ∧ g < w3.heap.size) := hide (X0.lt ot0)
  have hs5 := hide (F4).size
  replace E := E.trans F4
  replace HB_p := hide ((F4).kept (unhide HB_p))
  obtain ⟨t0_0, t0_1, t0_2a, t0_2n, t0_2c, t0_3, t0_4, t0_5, t0_6a, t0_6n, t0_6c, t0_7a, t0_7n, t0_7c, rfl⟩ := (unhide ShX0) _ _ (X0.reads ot0)
  have HO_t0 := hide ot0
  clear ot0
  have c_p_0 : w3.cell? ⟨w.heap.size, 0, none⟩ = some (.int .i64 p0_0) := cells_of (unhide HB_p) 0 _ rfl
  have c_p_1 : w3.cell? ⟨w.heap.size, 1, none⟩ = some (.int .i64 p0_1) := cells_of (unhide HB_p) 1 _ rfl
  have c_p_2 : w3.cell? ⟨w.heap.size, 2, none⟩ = some (.slice p0_2a p0_2n p0_2c) := cells_of (unhide HB_p) 2 _ rfl
  have c_p_3 : w3.cell? ⟨w.heap.size, 3, none⟩ = some (.int .i64 p0_3) := cells_of (unhide HB_p) 3 _ rfl
  have c_p_4 : w3.cell? ⟨w.heap.size, 4, none⟩ = some (.int .i64 p0_4) := cells_of (unhide HB_p) 4 _ rfl
  have c_p_5 : w3.cell? ⟨w.heap.size, 5, none⟩ = some (.bool p0_5) := cells_of (unhide HB_p) 5 _ rfl
  have c_p_6 : w3.cell? ⟨w.heap.size, 6, none⟩ = some (.slice p0_6a p0_6n p0_6c) := cells_of (unhide HB_p) 6 _ rfl
  have c_p_7 : w3.cell? ⟨w.heap.size, 7, none⟩ = some (.slice p0_7a p0_7n p0_7c) := cells_of (unhide HB_p) 7 _ rfl
  go_wp2_with fail
  clear c_p_0 c_p_1 c_p_2 c_p_3 c_p_4 c_p_5 c_p_6 c_p_7
  refine ((unhide HTo1) _ E).mono ?_
  rintro e w6 ⟨ut1, St1, rfl, ot1, F7⟩
  have HL_t1 : Hid (∀ g, St1 g → w3.heap.size ≤ g ∧ g < w6.heap.size) := hide (X1.lt ot1)
  have hs8 := hide (F7).size
  replace E := E.trans F7
  replace HB_p := hide ((F7).kept (unhide HB_p))
  replace HO_t0 := hide (X0.oext (unhide HO_t0) F7)
  obtain ⟨t1_a, t1_n, t1_c, rfl⟩ := (unhide ShX1) _ _ (X1.reads ot1)
  have HO_t1 := hide ot1
  clear ot1
  go_wp2_with fail
  refine ((unhide HS) _ _ _ E (X0.reads (unhide HO_t0)) (X1.reads (unhide HO_t1))).mono ?_
  rintro e w9 ⟨uw0, rfl, rw0, F10⟩
  have hs11 := hide (F10).size
  replace E := E.trans F10
  replace HB_p := hide ((F10).kept (unhide HB_p))
  replace HO_t0 := hide (X0.oext (unhide HO_t0) F10)
  replace HO_t1 := hide (X1.oext (unhide HO_t1) F10)
  obtain ⟨w0_0, w0_1, w0_2a, w0_2n, w0_2c, w0_3, w0_4, w0_5, w0_6a, w0_6n, w0_6c, w0_7a, w0_7n, w0_7c, rfl⟩ := (unhide ShK0) _ _ rw0
  have HR_w0 := hide rw0
  clear rw0
  have HEw := hide (Ext.refl w9)
  clear HO_t0
  clear HO_t1
  have c_p_0 : ∀ o0, (w9.alloc o0).cell? ⟨w.heap.size, 0, none⟩ = some (.int .i64 p0_0) := fun o0 => ((Ext.refl w9).alloc o0).cell (cells_of (unhide HB_p) 0 _ rfl)
  have c_p_1 : ∀ o0, (w9.alloc o0).cell? ⟨w.heap.size, 1, none⟩ = some (.int .i64 p0_1) := fun o0 => ((Ext.refl w9).alloc o0).cell (cells_of (unhide HB_p) 1 _ rfl)
  have c_p_2 : ∀ o0, (w9.alloc o0).cell? ⟨w.heap.size, 2, none⟩ = some (.slice p0_2a p0_2n p0_2c) := fun o0 => ((Ext.refl w9).alloc o0).cell (cells_of (unhide HB_p) 2 _ rfl)
  have c_p_3 : ∀ o0, (w9.alloc o0).cell? ⟨w.heap.size, 3, none⟩ = some (.int .i64 p0_3) := fun o0 => ((Ext.refl w9).alloc o0).cell (cells_of (unhide HB_p) 3 _ rfl)
  have c_p_4 : ∀ o0, (w9.alloc o0).cell? ⟨w.heap.size, 4, none⟩ = some (.int .i64 p0_4) := fun o0 => ((Ext.refl w9).alloc o0).cell (cells_of (unhide HB_p) 4 _ rfl)
  have c_p_5 : ∀ o0, (w9.alloc o0).cell? ⟨w.heap.size, 5, none⟩ = some (.bool p0_5) := fun o0 => ((Ext.refl w9).alloc o0).cell (cells_of (unhide HB_p) 5 _ rfl)
  have c_p_6 : ∀ o0, (w9.alloc o0).cell? ⟨w.heap.size, 6, none⟩ = some (.slice p0_6a p0_6n p0_6c) := fun o0 => ((Ext.refl w9).alloc o0).cell (cells_of (unhide HB_p) 6 _ rfl)
  have c_p_7 : ∀ o0, (w9.alloc o0).cell? ⟨w.heap.size, 7, none⟩ = some (.slice p0_7a p0_7n p0_7c) := fun o0 => ((Ext.refl w9).alloc o0).cell (cells_of (unhide HB_p) 7 _ rfl)
  go_wp2_with fail
  clear c_p_0 c_p_1 c_p_2 c_p_3 c_p_4 c_p_5 c_p_6 c_p_7
  obtain ⟨V12, hV12⟩ : ∃ V12, V12 = w9.alloc (.cells #[.int .i64 w0_0, .int .i64 w0_1, .slice w0_2a w0_2n w0_2c, .int .i64 w0_3, .int .i64 w0_4, .bool w0_5, .slice w0_6a w0_6n w0_6c, .slice w0_7a w0_7n w0_7c] 26) := ⟨_, rfl⟩
  rw [← hV12]
  have FV12 : Ext w9 V12 := by rw [hV12]; exact (Ext.refl w9).alloc _
  have HB_w0 : Hid (V12.heap[w9.heap.size]? = some (.cells #[.int .i64 w0_0, .int .i64 w0_1, .slice w0_2a w0_2n w0_2c, .int .i64 w0_3, .int .i64 w0_4, .bool w0_5, .slice w0_6a w0_6n w0_6c, .slice w0_7a w0_7n w0_7c] 26 (0, 0))) := hide (by rw [hV12]; exact new_block w9 _)
  have hzV12 := hide (lt_of_block (unhide HB_w0))
  clear hV12
  have hs13 := hide (FV12).size
  replace E := E.trans FV12
  replace HB_p := hide ((FV12).kept (unhide HB_p))
  replace HEw := hide ((unhide HEw).trans FV12)
  refine ((unhide HTo0) _ E).mono ?_
  rintro e w14 ⟨ux0, Sx0, rfl, ox0, F15⟩
  have HL_x0 : Hid (∀ g, Sx0 g → V12.heap.size ≤ g ∧ g < w14.heap.size) := hide (X0.lt ox0)
  have hs16 := hide (F15).size
  replace E := E.trans F15
  replace HB_p := hide ((F15).kept (unhide HB_p))
  replace HB_w0 := hide ((F15).kept (unhide HB_w0))
  replace HEw := hide ((unhide HEw).trans F15)
  obtain ⟨x0_0, x0_1, x0_2a, x0_2n, x0_2c, x0_3, x0_4, x0_5, x0_6a, x0_6n, x0_6c, x0_7a, x0_7n, x0_7c, rfl⟩ := (unhide ShX0) _ _ (X0.reads ox0)
  have HO_x0 := hide ox0
  clear ox0
  have c_p_0 : ∀ o0, (w14.alloc o0).cell? ⟨w.heap.size, 0, none⟩ = some (.int .i64 p0_0) := fun o0 => ((Ext.refl w14).alloc o0).cell (cells_of (unhide HB_p) 0 _ rfl)
  have c_p_1 : ∀ o0, (w14.alloc o0).cell? ⟨w.heap.size, 1, none⟩ = some (.int .i64 p0_1) := fun o0 => ((Ext.refl w14).alloc o0).cell (cells_of (unhide HB_p) 1 _ rfl)
  have c_p_2 : ∀ o0, (w14.alloc o0).cell? ⟨w.heap.size, 2, none⟩ = some (.slice p0_2a p0_2n p0_2c) := fun o0 => ((Ext.refl w14).alloc o0).cell (cells_of (unhide HB_p) 2 _ rfl)
  have c_p_3 : ∀ o0, (w14.alloc o0).cell? ⟨w.heap.size, 3, none⟩ = some (.int .i64 p0_3) := fun o0 => ((Ext.refl w14).alloc o0).cell (cells_of (unhide HB_p) 3 _ rfl)
  have c_p_4 : ∀ o0, (w14.alloc o0).cell? ⟨w.heap.size, 4, none⟩ = some (.int .i64 p0_4) := fun o0 => ((Ext.refl w14).alloc o0).cell (cells_of (unhide HB_p) 4 _ rfl)
  have c_p_5 : ∀ o0, (w14.alloc o0).cell? ⟨w.heap.size, 5, none⟩ = some (.bool p0_5) := fun o0 => ((Ext.refl w14).alloc o0).cell (cells_of (unhide HB_p) 5 _ rfl)
  have c_p_6 : ∀ o0, (w14.alloc o0).cell? ⟨w.heap.size, 6, none⟩ = some (.slice p0_6a p0_6n p0_6c) := fun o0 => ((Ext.refl w14).alloc o0).cell (cells_of (unhide HB_p) 6 _ rfl)
  have c_p_7 : ∀ o0, (w14.alloc o0).cell? ⟨w.heap.size, 7, none⟩ = some (.slice p0_7a p0_7n p0_7c) := fun o0 => ((Ext.refl w14).alloc o0).cell (cells_of (unhide HB_p) 7 _ rfl)
  go_wp2_with fail
  clear c_p_0 c_p_1 c_p_2 c_p_3 c_p_4 c_p_5 c_p_6 c_p_7
  obtain ⟨V17, hV17⟩ : ∃ V17, V17 = w14.alloc (.cells #[.int .i64 x0_0, .int .i64 x0_1, .slice x0_2a x0_2n x0_2c, .int .i64 x0_3, .int .i64 x0_4, .bool x0_5, .slice x0_6a x0_6n x0_6c, .slice x0_7a x0_7n x0_7c] 26) := ⟨_, rfl⟩
  rw [← hV17]
  have FV17 : Ext w14 V17 := by rw [hV17]; exact (Ext.refl w14).alloc _
  have HB_x0 : Hid (V17.heap[w14.heap.size]? = some (.cells #[.int .i64 x0_0, .int .i64 x0_1, .slice x0_2a x0_2n x0_2c, .int .i64 x0_3, .int .i64 x0_4, .bool x0_5, .slice x0_6a x0_6n x0_6c, .slice x0_7a x0_7n x0_7c] 26 (0, 0))) := hide (by rw [hV17]; exact new_block w14 _)
  have hzV17 := hide (lt_of_block (unhide HB_x0))
  clear hV17
  have hs18 := hide (FV17).size
  replace E := E.trans FV17
  replace HB_p := hide ((FV17).kept (unhide HB_p))
  replace HB_w0 := hide ((FV17).kept (unhide HB_w0))
  replace HO_x0 := hide (X0.oext (unhide HO_x0) FV17)
  replace HEw := hide ((unhide HEw).trans FV17)
  refine ((unhide HTo1) _ E).mono ?_
  rintro e w19 ⟨ux1, Sx1, rfl, ox1, F20⟩
  have HL_x1 : Hid (∀ g, Sx1 g → V17.heap.size ≤ g ∧ g < w19.heap.size) := hide (X1.lt ox1)
  have hs21 := hide (F20).size
  replace E := E.trans F20
  replace HB_p := hide ((F20).kept (unhide HB_p))
  replace HB_w0 := hide ((F20).kept (unhide HB_w0))
  replace HB_x0 := hide ((F20).kept (unhide HB_x0))
  replace HO_x0 := hide (X0.oext (unhide HO_x0) F20)
  replace HEw := hide ((unhide HEw).trans F20)
  obtain ⟨x1_a, x1_n, x1_c, rfl⟩ := (unhide ShX1) _ _ (X1.reads ox1)
  have HO_x1 := hide ox1
  clear ox1
  have c_x0_0 : w19.cell? ⟨w14.heap.size, 0, none⟩ = some (.int .i64 x0_0) := cells_of (unhide HB_x0) 0 _ rfl
  have c_x0_1 : w19.cell? ⟨w14.heap.size, 1, none⟩ = some (.int .i64 x0_1) := cells_of (unhide HB_x0) 1 _ rfl
  have c_x0_2 : w19.cell? ⟨w14.heap.size, 2, none⟩ = some (.slice x0_2a x0_2n x0_2c) := cells_of (unhide HB_x0) 2 _ rfl
  have c_x0_3 : w19.cell? ⟨w14.heap.size, 3, none⟩ = some (.int .i64 x0_3) := cells_of (unhide HB_x0) 3 _ rfl
  have c_x0_4 : w19.cell? ⟨w14.heap.size, 4, none⟩ = some (.int .i64 x0_4) := cells_of (unhide HB_x0) 4 _ rfl
  have c_x0_5 : w19.cell? ⟨w14.heap.size, 5, none⟩ = some (.bool x0_5) := cells_of (unhide HB_x0) 5 _ rfl
  have c_x0_6 : w19.cell? ⟨w14.heap.size, 6, none⟩ = some (.slice x0_6a x0_6n x0_6c) := cells_of (unhide HB_x0) 6 _ rfl
  have c_x0_7 : w19.cell? ⟨w14.heap.size, 7, none⟩ = some (.slice x0_7a x0_7n x0_7c) := cells_of (unhide HB_x0) 7 _ rfl
  go_wp2_with fail
  clear c_x0_0 c_x0_1 c_x0_2 c_x0_3 c_x0_4 c_x0_5 c_x0_6 c_x0_7
  refine ((unhide HI) _ _ _ E (X0.reads (unhide HO_x0)) (X1.reads (unhide HO_x1))).mono ?_
  rintro e w22 ⟨ug0, Sg0, rfl, og0, F23⟩
  have HL_g0 : Hid (∀ g, Sg0 g → w19.heap.size ≤ g ∧ g < w22.heap.size) := hide (K0.lt og0)
  have hs24 := hide (F23).size
  replace E := E.trans F23
  replace HB_p := hide ((F23).kept (unhide HB_p))
  replace HB_w0 := hide ((F23).kept (unhide HB_w0))
  replace HB_x0 := hide ((F23).kept (unhide HB_x0))
  replace HO_x0 := hide (X0.oext (unhide HO_x0) F23)
  replace HO_x1 := hide (X1.oext (unhide HO_x1) F23)
  replace HEw := hide ((unhide HEw).trans F23)
  obtain ⟨g0_0, g0_1, g0_2a, g0_2n, g0_2c, g0_3, g0_4, g0_5, g0_6a, g0_6n, g0_6c, g0_7a, g0_7n, g0_7c, rfl⟩ := (unhide ShK0) _ _ (K0.reads og0)
  have HO_g0 := hide og0
  clear og0
  have c_w0_0 : ∀ o0, (w22.alloc o0).cell? ⟨w9.heap.size, 0, none⟩ = some (.int .i64 w0_0) := fun o0 => ((Ext.refl w22).alloc o0).cell (cells_of (unhide HB_w0) 0 _ rfl)
  have c_w0_1 : ∀ o0, (w22.alloc o0).cell? ⟨w9.heap.size, 1, none⟩ = some (.int .i64 w0_1) := fun o0 => ((Ext.refl w22).alloc o0).cell (cells_of (unhide HB_w0) 1 _ rfl)
  have c_w0_2 : ∀ o0, (w22.alloc o0).cell? ⟨w9.heap.size, 2, none⟩ = some (.slice w0_2a w0_2n w0_2c) := fun o0 => ((Ext.refl w22).alloc o0).cell (cells_of (unhide HB_w0) 2 _ rfl)
  have c_w0_3 : ∀ o0, (w22.alloc o0).cell? ⟨w9.heap.size, 3, none⟩ = some (.int .i64 w0_3) := fun o0 => ((Ext.refl w22).alloc o0).cell (cells_of (unhide HB_w0) 3 _ rfl)
  have c_w0_4 : ∀ o0, (w22.alloc o0).cell? ⟨w9.heap.size, 4, none⟩ = some (.int .i64 w0_4) := fun o0 => ((Ext.refl w22).alloc o0).cell (cells_of (unhide HB_w0) 4 _ rfl)
  have c_w0_5 : ∀ o0, (w22.alloc o0).cell? ⟨w9.heap.size, 5, none⟩ = some (.bool w0_5) := fun o0 => ((Ext.refl w22).alloc o0).cell (cells_of (unhide HB_w0) 5 _ rfl)
  have c_w0_6 : ∀ o0, (w22.alloc o0).cell? ⟨w9.heap.size, 6, none⟩ = some (.slice w0_6a w0_6n w0_6c) := fun o0 => ((Ext.refl w22).alloc o0).cell (cells_of (unhide HB_w0) 6 _ rfl)
  have c_w0_7 : ∀ o0, (w22.alloc o0).cell? ⟨w9.heap.size, 7, none⟩ = some (.slice w0_7a w0_7n w0_7c) := fun o0 => ((Ext.refl w22).alloc o0).cell (cells_of (unhide HB_w0) 7 _ rfl)
  go_wp2_with fail
  clear c_w0_0 c_w0_1 c_w0_2 c_w0_3 c_w0_4 c_w0_5 c_w0_6 c_w0_7
  obtain ⟨V25, hV25⟩ : ∃ V25, V25 = w22.alloc (.cells #[.int .i64 g0_0, .int .i64 g0_1, .slice g0_2a g0_2n g0_2c, .int .i64 g0_3, .int .i64 g0_4, .bool g0_5, .slice g0_6a g0_6n g0_6c, .slice g0_7a g0_7n g0_7c] 26) := ⟨_, rfl⟩
  rw [← hV25]
  have FV25 : Ext w22 V25 := by rw [hV25]; exact (Ext.refl w22).alloc _
  have HB_g0 : Hid (V25.heap[w22.heap.size]? = some (.cells #[.int .i64 g0_0, .int .i64 g0_1, .slice g0_2a g0_2n g0_2c, .int .i64 g0_3, .int .i64 g0_4, .bool g0_5, .slice g0_6a g0_6n g0_6c, .slice g0_7a g0_7n g0_7c] 26 (0, 0))) := hide (by rw [hV25]; exact new_block w22 _)
  have hzV25 := hide (lt_of_block (unhide HB_g0))
  clear hV25
  have hs26 := hide (FV25).size
  replace E := E.trans FV25
  replace HB_p := hide ((FV25).kept (unhide HB_p))
  replace HB_w0 := hide ((FV25).kept (unhide HB_w0))
  replace HB_x0 := hide ((FV25).kept (unhide HB_x0))
  replace HO_x0 := hide (X0.oext (unhide HO_x0) FV25)
  replace HO_x1 := hide (X1.oext (unhide HO_x1) FV25)
  replace HO_g0 := hide (K0.oext (unhide HO_g0) FV25)
  replace HEw := hide ((unhide HEw).trans FV25)
  refine ((unhide HEqK0) _ _ _ (K0.reads (unhide HO_g0)) (K0.rext (unhide HR_w0) (unhide HEw))).mono ?_
  rintro e w27 ⟨rfl, F28⟩
  have hs29 := hide (F28).size
  replace E := E.trans F28
  replace HB_p := hide ((F28).kept (unhide HB_p))
  replace HB_w0 := hide ((F28).kept (unhide HB_w0))
  replace HB_x0 := hide ((F28).kept (unhide HB_x0))
  replace HB_g0 := hide ((F28).kept (unhide HB_g0))
  replace HO_x0 := hide (X0.oext (unhide HO_x0) F28)
  replace HO_x1 := hide (X1.oext (unhide HO_x1) F28)
  replace HO_g0 := hide (K0.oext (unhide HO_g0) F28)
  replace HEw := hide ((unhide HEw).trans F28)
  have c_x0_0 : w27.cell? ⟨w14.heap.size, 0, none⟩ = some (.int .i64 x0_0) := cells_of (unhide HB_x0) 0 _ rfl
  have c_x0_1 : w27.cell? ⟨w14.heap.size, 1, none⟩ = some (.int .i64 x0_1) := cells_of (unhide HB_x0) 1 _ rfl
  have c_x0_2 : w27.cell? ⟨w14.heap.size, 2, none⟩ = some (.slice x0_2a x0_2n x0_2c) := cells_of (unhide HB_x0) 2 _ rfl
  have c_x0_3 : w27.cell? ⟨w14.heap.size, 3, none⟩ = some (.int .i64 x0_3) := cells_of (unhide HB_x0) 3 _ rfl
  have c_x0_4 : w27.cell? ⟨w14.heap.size, 4, none⟩ = some (.int .i64 x0_4) := cells_of (unhide HB_x0) 4 _ rfl
  have c_x0_5 : w27.cell? ⟨w14.heap.size, 5, none⟩ = some (.bool x0_5) := cells_of (unhide HB_x0) 5 _ rfl
  have c_x0_6 : w27.cell? ⟨w14.heap.size, 6, none⟩ = some (.slice x0_6a x0_6n x0_6c) := cells_of (unhide HB_x0) 6 _ rfl
  have c_x0_7 : w27.cell? ⟨w14.heap.size, 7, none⟩ = some (.slice x0_7a x0_7n x0_7c) := cells_of (unhide HB_x0) 7 _ rfl
  have c_p_0 : w27.cell? ⟨w.heap.size, 0, none⟩ = some (.int .i64 p0_0) := cells_of (unhide HB_p) 0 _ rfl
  have c_p_1 : w27.cell? ⟨w.heap.size, 1, none⟩ = some (.int .i64 p0_1) := cells_of (unhide HB_p) 1 _ rfl
  have c_p_2 : w27.cell? ⟨w.heap.size, 2, none⟩ = some (.slice p0_2a p0_2n p0_2c) := cells_of (unhide HB_p) 2 _ rfl
  have c_p_3 : w27.cell? ⟨w.heap.size, 3, none⟩ = some (.int .i64 p0_3) := cells_of (unhide HB_p) 3 _ rfl
  have c_p_4 : w27.cell? ⟨w.heap.size, 4, none⟩ = some (.int .i64 p0_4) := cells_of (unhide HB_p) 4 _ rfl
  have c_p_5 : w27.cell? ⟨w.heap.size, 5, none⟩ = some (.bool p0_5) := cells_of (unhide HB_p) 5 _ rfl
  have c_p_6 : w27.cell? ⟨w.heap.size, 6, none⟩ = some (.slice p0_6a p0_6n p0_6c) := cells_of (unhide HB_p) 6 _ rfl
  have c_p_7 : w27.cell? ⟨w.heap.size, 7, none⟩ = some (.slice p0_7a p0_7n p0_7c) := cells_of (unhide HB_p) 7 _ rfl
  go_wp2
  have HTt := hide (fun U (hU : Ext w27 U) => (unhide HTo0) U (E.trans hU))
  go_region_held3 (fun W => W.cell? ⟨w14.heap.size, 0, none⟩ = some (.int .i64 x0_0) ∧ W.cell? ⟨w14.heap.size, 1, none⟩ = some (.int .i64 x0_1) ∧ W.cell? ⟨w14.heap.size, 2, none⟩ = some (.slice x0_2a x0_2n x0_2c) ∧ W.cell? ⟨w14.heap.size, 3, none⟩ = some (.int .i64 x0_3) ∧ W.cell? ⟨w14.heap.size, 4, none⟩ = some (.int .i64 x0_4) ∧ W.cell? ⟨w14.heap.size, 5, none⟩ = some (.bool x0_5) ∧ W.cell? ⟨w14.heap.size, 6, none⟩ = some (.slice x0_6a x0_6n x0_6c) ∧ W.cell? ⟨w14.heap.size, 7, none⟩ = some (.slice x0_7a x0_7n x0_7c) ∧ W.cell? ⟨w.heap.size, 0, none⟩ = some (.int .i64 p0_0) ∧ W.cell? ⟨w.heap.size, 1, none⟩ = some (.int .i64 p0_1) ∧ W.cell? ⟨w.heap.size, 2, none⟩ = some (.slice p0_2a p0_2n p0_2c) ∧ W.cell? ⟨w.heap.size, 3, none⟩ = some (.int .i64 p0_3) ∧ W.cell? ⟨w.heap.size, 4, none⟩ = some (.int .i64 p0_4) ∧ W.cell? ⟨w.heap.size, 5, none⟩ = some (.bool p0_5) ∧ W.cell? ⟨w.heap.size, 6, none⟩ = some (.slice p0_6a p0_6n p0_6c) ∧ W.cell? ⟨w.heap.size, 7, none⟩ = some (.slice p0_7a p0_7n p0_7c)) (first | exact ⟨c_x0_0, c_x0_1, c_x0_2, c_x0_3, c_x0_4, c_x0_5, c_x0_6, c_x0_7, c_p_0, c_p_1, c_p_2, c_p_3, c_p_4, c_p_5, c_p_6, c_p_7⟩ | exact ⟨he'.cell c_x0_0, he'.cell c_x0_1, he'.cell c_x0_2, he'.cell c_x0_3, he'.cell c_x0_4, he'.cell c_x0_5, he'.cell c_x0_6, he'.cell c_x0_7, he'.cell c_p_0, he'.cell c_p_1, he'.cell c_p_2, he'.cell c_p_3, he'.cell c_p_4, he'.cell c_p_5, he'.cell c_p_6, he'.cell c_p_7⟩)
    (first
      | (go_at_call 15; refine ((unhide HTt) _ (Ext.refl w27).drew).mono ?_; rintro e w30 ⟨uT, ST, rfl, oT, FT⟩; have he' := (Ext.refl w27).drew.trans FT; obtain ⟨yx0, yx1, yx2a, yx2n, yx2c, yx3, yx4, yx5, yx6a, yx6n, yx6c, yx7a, yx7n, yx7c, rfl⟩ := (unhide ShX0) _ _ (X0.reads oT); have RT := hide (X0.reads oT); clear oT FT)
      | (go_at_call 17; refine ((unhide HEqX0) _ _ _ (X0.rext (X0.reads (unhide HO_x0)) he') (unhide RT)).mono ?_; rintro e w31 ⟨rfl, FE⟩; have he' := he'.trans FE; clear FE))
  clear HTt RT c_x0_0 c_x0_1 c_x0_2 c_x0_3 c_x0_4 c_x0_5 c_x0_6 c_x0_7 c_p_0 c_p_1 c_p_2 c_p_3 c_p_4 c_p_5 c_p_6 c_p_7
  have F32 := he'
  clear he'
  have hs33 := hide (F32).size
  replace E := E.trans F32
  replace HB_p := hide ((F32).kept (unhide HB_p))
  replace HB_w0 := hide ((F32).kept (unhide HB_w0))
  replace HB_x0 := hide ((F32).kept (unhide HB_x0))
  replace HB_g0 := hide ((F32).kept (unhide HB_g0))
  replace HO_x0 := hide (X0.oext (unhide HO_x0) F32)
  replace HO_x1 := hide (X1.oext (unhide HO_x1) F32)
  replace HO_g0 := hide (K0.oext (unhide HO_g0) F32)
  replace HEw := hide ((unhide HEw).trans F32)
  go_wp2_with fail
  refine ((unhide HTo1) _ E).mono ?_
  rintro e w34 ⟨ut1, St1, rfl, ot1, F35⟩
  have HL_t1 : Hid (∀ g, St1 g → w31.heap.size ≤ g ∧ g < w34.heap.size) := hide (X1.lt ot1)
  have hs36 := hide (F35).size
  replace E := E.trans F35
  replace HB_p := hide ((F35).kept (unhide HB_p))
  replace HB_w0 := hide ((F35).kept (unhide HB_w0))
  replace HB_x0 := hide ((F35).kept (unhide HB_x0))
  replace HB_g0 := hide ((F35).kept (unhide HB_g0))
  replace HO_x0 := hide (X0.oext (unhide HO_x0) F35)
  replace HO_x1 := hide (X1.oext (unhide HO_x1) F35)
  replace HO_g0 := hide (K0.oext (unhide HO_g0) F35)
  replace HEw := hide ((unhide HEw).trans F35)
  obtain ⟨t1_a, t1_n, t1_c, rfl⟩ := (unhide ShX1) _ _ (X1.reads ot1)
  have HO_t1 := hide ot1
  clear ot1
  go_wp2_with fail
  refine ((unhide HEqX1) _ _ _ (X1.reads (unhide HO_x1)) (X1.reads (unhide HO_t1))).mono ?_
  rintro e w37 ⟨rfl, F38⟩
  have hs39 := hide (F38).size
  replace E := E.trans F38
  replace HB_p := hide ((F38).kept (unhide HB_p))
  replace HB_w0 := hide ((F38).kept (unhide HB_w0))
  replace HB_x0 := hide ((F38).kept (unhide HB_x0))
  replace HB_g0 := hide ((F38).kept (unhide HB_g0))
  replace HO_x0 := hide (X0.oext (unhide HO_x0) F38)
  replace HO_x1 := hide (X1.oext (unhide HO_x1) F38)
  replace HO_g0 := hide (K0.oext (unhide HO_g0) F38)
  replace HO_t1 := hide (X1.oext (unhide HO_t1) F38)
  replace HEw := hide ((unhide HEw).trans F38)
  clear HO_t1
  have c_x0_0 : w37.cell? ⟨w14.heap.size, 0, none⟩ = some (.int .i64 x0_0) := cells_of (unhide HB_x0) 0 _ rfl
  have c_x0_1 : w37.cell? ⟨w14.heap.size, 1, none⟩ = some (.int .i64 x0_1) := cells_of (unhide HB_x0) 1 _ rfl
  have c_x0_2 : w37.cell? ⟨w14.heap.size, 2, none⟩ = some (.slice x0_2a x0_2n x0_2c) := cells_of (unhide HB_x0) 2 _ rfl
  have c_x0_3 : w37.cell? ⟨w14.heap.size, 3, none⟩ = some (.int .i64 x0_3) := cells_of (unhide HB_x0) 3 _ rfl
  have c_x0_4 : w37.cell? ⟨w14.heap.size, 4, none⟩ = some (.int .i64 x0_4) := cells_of (unhide HB_x0) 4 _ rfl
  have c_x0_5 : w37.cell? ⟨w14.heap.size, 5, none⟩ = some (.bool x0_5) := cells_of (unhide HB_x0) 5 _ rfl
  have c_x0_6 : w37.cell? ⟨w14.heap.size, 6, none⟩ = some (.slice x0_6a x0_6n x0_6c) := cells_of (unhide HB_x0) 6 _ rfl
  have c_x0_7 : w37.cell? ⟨w14.heap.size, 7, none⟩ = some (.slice x0_7a x0_7n x0_7c) := cells_of (unhide HB_x0) 7 _ rfl
  go_wp2_with fail
  clear c_x0_0 c_x0_1 c_x0_2 c_x0_3 c_x0_4 c_x0_5 c_x0_6 c_x0_7
  refine ((unhide HMkX0) _ _ _ _ _ (unhide HO_x0) (by omega) (by omega)).mono ?_
  rintro e w40 ⟨rfl, om, F41⟩
  replace E := F41.ext E (fun _ h9 => by have b9 := (unhide HL_x0) _ h9; have z0 := unhide hzW0; have z1 := unhide hs2; have z2 := unhide hs5; have z3 := unhide hs8; have z4 := unhide hs11; have z5 := unhide hzV12; have z6 := unhide hs13; have z7 := unhide hs16; have z8 := unhide hzV17; have z9 := unhide hs18; have z10 := unhide hs21; have z11 := unhide hs24; have z12 := unhide hzV25; have z13 := unhide hs26; have z14 := unhide hs29; have z15 := unhide hs33; have z16 := unhide hs36; have z17 := unhide hs39; omega)
  replace HEw := hide (F41.ext (unhide HEw) (fun _ h9 => by have b9 := (unhide HL_x0) _ h9; have z0 := unhide hzW0; have z1 := unhide hs2; have z2 := unhide hs5; have z3 := unhide hs8; have z4 := unhide hs11; have z5 := unhide hzV12; have z6 := unhide hs13; have z7 := unhide hs16; have z8 := unhide hzV17; have z9 := unhide hs18; have z10 := unhide hs21; have z11 := unhide hs24; have z12 := unhide hzV25; have z13 := unhide hs26; have z14 := unhide hs29; have z15 := unhide hs33; have z16 := unhide hs36; have z17 := unhide hs39; omega))
  replace HB_p := hide (F41.kept (unhide HB_p) (fun h9 => by have b9 := (unhide HL_x0) _ h9; have z0 := unhide hzW0; have z1 := unhide hs2; have z2 := unhide hs5; have z3 := unhide hs8; have z4 := unhide hs11; have z5 := unhide hzV12; have z6 := unhide hs13; have z7 := unhide hs16; have z8 := unhide hzV17; have z9 := unhide hs18; have z10 := unhide hs21; have z11 := unhide hs24; have z12 := unhide hzV25; have z13 := unhide hs26; have z14 := unhide hs29; have z15 := unhide hs33; have z16 := unhide hs36; have z17 := unhide hs39; omega))
  replace HB_w0 := hide (F41.kept (unhide HB_w0) (fun h9 => by have b9 := (unhide HL_x0) _ h9; have z0 := unhide hzW0; have z1 := unhide hs2; have z2 := unhide hs5; have z3 := unhide hs8; have z4 := unhide hs11; have z5 := unhide hzV12; have z6 := unhide hs13; have z7 := unhide hs16; have z8 := unhide hzV17; have z9 := unhide hs18; have z10 := unhide hs21; have z11 := unhide hs24; have z12 := unhide hzV25; have z13 := unhide hs26; have z14 := unhide hs29; have z15 := unhide hs33; have z16 := unhide hs36; have z17 := unhide hs39; omega))
  replace HB_x0 := hide (F41.kept (unhide HB_x0) (fun h9 => by have b9 := (unhide HL_x0) _ h9; have z0 := unhide hzW0; have z1 := unhide hs2; have z2 := unhide hs5; have z3 := unhide hs8; have z4 := unhide hs11; have z5 := unhide hzV12; have z6 := unhide hs13; have z7 := unhide hs16; have z8 := unhide hzV17; have z9 := unhide hs18; have z10 := unhide hs21; have z11 := unhide hs24; have z12 := unhide hzV25; have z13 := unhide hs26; have z14 := unhide hs29; have z15 := unhide hs33; have z16 := unhide hs36; have z17 := unhide hs39; omega))
  replace HB_g0 := hide (F41.kept (unhide HB_g0) (fun h9 => by have b9 := (unhide HL_x0) _ h9; have z0 := unhide hzW0; have z1 := unhide hs2; have z2 := unhide hs5; have z3 := unhide hs8; have z4 := unhide hs11; have z5 := unhide hzV12; have z6 := unhide hs13; have z7 := unhide hs16; have z8 := unhide hzV17; have z9 := unhide hs18; have z10 := unhide hs21; have z11 := unhide hs24; have z12 := unhide hzV25; have z13 := unhide hs26; have z14 := unhide hs29; have z15 := unhide hs33; have z16 := unhide hs36; have z17 := unhide hs39; omega))
  replace HO_x1 := hide (X1.ofr (unhide HO_x1) F41 (fun q9 h8 h9 => by have b8 := (unhide HL_x1) q9 h8; have b9 := (unhide HL_x0) q9 h9; have z0 := unhide hzW0; have z1 := unhide hs2; have z2 := unhide hs5; have z3 := unhide hs8; have z4 := unhide hs11; have z5 := unhide hzV12; have z6 := unhide hs13; have z7 := unhide hs16; have z8 := unhide hzV17; have z9 := unhide hs18; have z10 := unhide hs21; have z11 := unhide hs24; have z12 := unhide hzV25; have z13 := unhide hs26; have z14 := unhide hs29; have z15 := unhide hs33; have z16 := unhide hs36; have z17 := unhide hs39; omega))
  replace HO_g0 := hide (K0.ofr (unhide HO_g0) F41 (fun q9 h8 h9 => by have b8 := (unhide HL_g0) q9 h8; have b9 := (unhide HL_x0) q9 h9; have z0 := unhide hzW0; have z1 := unhide hs2; have z2 := unhide hs5; have z3 := unhide hs8; have z4 := unhide hs11; have z5 := unhide hzV12; have z6 := unhide hs13; have z7 := unhide hs16; have z8 := unhide hzV17; have z9 := unhide hs18; have z10 := unhide hs21; have z11 := unhide hs24; have z12 := unhide hzV25; have z13 := unhide hs26; have z14 := unhide hs29; have z15 := unhide hs33; have z16 := unhide hs36; have z17 := unhide hs39; omega))
  have hs42 := hide F41.size
  replace HO_x0 := hide om
  clear om
  go_wp2_with fail
  refine ((unhide HMkX1) _ _ _ _ _ (unhide HO_x1) (by omega) (by omega)).mono ?_
  rintro e w43 ⟨rfl, om, F44⟩
  replace E := F44.ext E (fun _ h9 => by have b9 := (unhide HL_x1) _ h9; have z0 := unhide hzW0; have z1 := unhide hs2; have z2 := unhide hs5; have z3 := unhide hs8; have z4 := unhide hs11; have z5 := unhide hzV12; have z6 := unhide hs13; have z7 := unhide hs16; have z8 := unhide hzV17; have z9 := unhide hs18; have z10 := unhide hs21; have z11 := unhide hs24; have z12 := unhide hzV25; have z13 := unhide hs26; have z14 := unhide hs29; have z15 := unhide hs33; have z16 := unhide hs36; have z17 := unhide hs39; have z18 := unhide hs42; omega)
  replace HEw := hide (F44.ext (unhide HEw) (fun _ h9 => by have b9 := (unhide HL_x1) _ h9; have z0 := unhide hzW0; have z1 := unhide hs2; have z2 := unhide hs5; have z3 := unhide hs8; have z4 := unhide hs11; have z5 := unhide hzV12; have z6 := unhide hs13; have z7 := unhide hs16; have z8 := unhide hzV17; have z9 := unhide hs18; have z10 := unhide hs21; have z11 := unhide hs24; have z12 := unhide hzV25; have z13 := unhide hs26; have z14 := unhide hs29; have z15 := unhide hs33; have z16 := unhide hs36; have z17 := unhide hs39; have z18 := unhide hs42; omega))
  replace HB_p := hide (F44.kept (unhide HB_p) (fun h9 => by have b9 := (unhide HL_x1) _ h9; have z0 := unhide hzW0; have z1 := unhide hs2; have z2 := unhide hs5; have z3 := unhide hs8; have z4 := unhide hs11; have z5 := unhide hzV12; have z6 := unhide hs13; have z7 := unhide hs16; have z8 := unhide hzV17; have z9 := unhide hs18; have z10 := unhide hs21; have z11 := unhide hs24; have z12 := unhide hzV25; have z13 := unhide hs26; have z14 := unhide hs29; have z15 := unhide hs33; have z16 := unhide hs36; have z17 := unhide hs39; have z18 := unhide hs42; omega))
  replace HB_w0 := hide (F44.kept (unhide HB_w0) (fun h9 => by have b9 := (unhide HL_x1) _ h9; have z0 := unhide hzW0; have z1 := unhide hs2; have z2 := unhide hs5; have z3 := unhide hs8; have z4 := unhide hs11; have z5 := unhide hzV12; have z6 := unhide hs13; have z7 := unhide hs16; have z8 := unhide hzV17; have z9 := unhide hs18; have z10 := unhide hs21; have z11 := unhide hs24; have z12 := unhide hzV25; have z13 := unhide hs26; have z14 := unhide hs29; have z15 := unhide hs33; have z16 := unhide hs36; have z17 := unhide hs39; have z18 := unhide hs42; omega))
  replace HB_x0 := hide (F44.kept (unhide HB_x0) (fun h9 => by have b9 := (unhide HL_x1) _ h9; have z0 := unhide hzW0; have z1 := unhide hs2; have z2 := unhide hs5; have z3 := unhide hs8; have z4 := unhide hs11; have z5 := unhide hzV12; have z6 := unhide hs13; have z7 := unhide hs16; have z8 := unhide hzV17; have z9 := unhide hs18; have z10 := unhide hs21; have z11 := unhide hs24; have z12 := unhide hzV25; have z13 := unhide hs26; have z14 := unhide hs29; have z15 := unhide hs33; have z16 := unhide hs36; have z17 := unhide hs39; have z18 := unhide hs42; omega))
  replace HB_g0 := hide (F44.kept (unhide HB_g0) (fun h9 => by have b9 := (unhide HL_x1) _ h9; have z0 := unhide hzW0; have z1 := unhide hs2; have z2 := unhide hs5; have z3 := unhide hs8; have z4 := unhide hs11; have z5 := unhide hzV12; have z6 := unhide hs13; have z7 := unhide hs16; have z8 := unhide hzV17; have z9 := unhide hs18; have z10 := unhide hs21; have z11 := unhide hs24; have z12 := unhide hzV25; have z13 := unhide hs26; have z14 := unhide hs29; have z15 := unhide hs33; have z16 := unhide hs36; have z17 := unhide hs39; have z18 := unhide hs42; omega))
  replace HO_x0 := hide ((MX0 (1)).ofr (unhide HO_x0) F44 (fun q9 h8 h9 => by have b8 := (unhide HL_x0) q9 h8; have b9 := (unhide HL_x1) q9 h9; have z0 := unhide hzW0; have z1 := unhide hs2; have z2 := unhide hs5; have z3 := unhide hs8; have z4 := unhide hs11; have z5 := unhide hzV12; have z6 := unhide hs13; have z7 := unhide hs16; have z8 := unhide hzV17; have z9 := unhide hs18; have z10 := unhide hs21; have z11 := unhide hs24; have z12 := unhide hzV25; have z13 := unhide hs26; have z14 := unhide hs29; have z15 := unhide hs33; have z16 := unhide hs36; have z17 := unhide hs39; have z18 := unhide hs42; omega))
  replace HO_g0 := hide (K0.ofr (unhide HO_g0) F44 (fun q9 h8 h9 => by have b8 := (unhide HL_g0) q9 h8; have b9 := (unhide HL_x1) q9 h9; have z0 := unhide hzW0; have z1 := unhide hs2; have z2 := unhide hs5; have z3 := unhide hs8; have z4 := unhide hs11; have z5 := unhide hzV12; have z6 := unhide hs13; have z7 := unhide hs16; have z8 := unhide hzV17; have z9 := unhide hs18; have z10 := unhide hs21; have z11 := unhide hs24; have z12 := unhide hzV25; have z13 := unhide hs26; have z14 := unhide hs29; have z15 := unhide hs33; have z16 := unhide hs36; have z17 := unhide hs39; have z18 := unhide hs42; omega))
  have hs45 := hide F44.size
  replace HO_x1 := hide om
  clear om
  have hkk : ¬ (1 + (mX0 : Int) + (mX1 : Int) : Int) < 0 := by omega
  clear HO_x0
  clear HO_x1
  clear HB_x0
  have c_g0_0 : w43.cell? ⟨w22.heap.size, 0, none⟩ = some (.int .i64 g0_0) := cells_of (unhide HB_g0) 0 _ rfl
  have c_g0_1 : w43.cell? ⟨w22.heap.size, 1, none⟩ = some (.int .i64 g0_1) := cells_of (unhide HB_g0) 1 _ rfl
  have c_g0_2 : w43.cell? ⟨w22.heap.size, 2, none⟩ = some (.slice g0_2a g0_2n g0_2c) := cells_of (unhide HB_g0) 2 _ rfl
  have c_g0_3 : w43.cell? ⟨w22.heap.size, 3, none⟩ = some (.int .i64 g0_3) := cells_of (unhide HB_g0) 3 _ rfl
  have c_g0_4 : w43.cell? ⟨w22.heap.size, 4, none⟩ = some (.int .i64 g0_4) := cells_of (unhide HB_g0) 4 _ rfl
  have c_g0_5 : w43.cell? ⟨w22.heap.size, 5, none⟩ = some (.bool g0_5) := cells_of (unhide HB_g0) 5 _ rfl
  have c_g0_6 : w43.cell? ⟨w22.heap.size, 6, none⟩ = some (.slice g0_6a g0_6n g0_6c) := cells_of (unhide HB_g0) 6 _ rfl
  have c_g0_7 : w43.cell? ⟨w22.heap.size, 7, none⟩ = some (.slice g0_7a g0_7n g0_7c) := cells_of (unhide HB_g0) 7 _ rfl
  have c_w0_0 : w43.cell? ⟨w9.heap.size, 0, none⟩ = some (.int .i64 w0_0) := cells_of (unhide HB_w0) 0 _ rfl
  have c_w0_1 : w43.cell? ⟨w9.heap.size, 1, none⟩ = some (.int .i64 w0_1) := cells_of (unhide HB_w0) 1 _ rfl
  have c_w0_2 : w43.cell? ⟨w9.heap.size, 2, none⟩ = some (.slice w0_2a w0_2n w0_2c) := cells_of (unhide HB_w0) 2 _ rfl
  have c_w0_3 : w43.cell? ⟨w9.heap.size, 3, none⟩ = some (.int .i64 w0_3) := cells_of (unhide HB_w0) 3 _ rfl
  have c_w0_4 : w43.cell? ⟨w9.heap.size, 4, none⟩ = some (.int .i64 w0_4) := cells_of (unhide HB_w0) 4 _ rfl
  have c_w0_5 : w43.cell? ⟨w9.heap.size, 5, none⟩ = some (.bool w0_5) := cells_of (unhide HB_w0) 5 _ rfl
  have c_w0_6 : w43.cell? ⟨w9.heap.size, 6, none⟩ = some (.slice w0_6a w0_6n w0_6c) := cells_of (unhide HB_w0) 6 _ rfl
  have c_w0_7 : w43.cell? ⟨w9.heap.size, 7, none⟩ = some (.slice w0_7a w0_7n w0_7c) := cells_of (unhide HB_w0) 7 _ rfl
  go_wp2_with fail
  clear c_g0_0 c_g0_1 c_g0_2 c_g0_3 c_g0_4 c_g0_5 c_g0_6 c_g0_7 c_w0_0 c_w0_1 c_w0_2 c_w0_3 c_w0_4 c_w0_5 c_w0_6 c_w0_7
  refine ((unhide HEqK0) _ _ _ (K0.reads (unhide HO_g0)) (K0.rext (unhide HR_w0) (unhide HEw))).mono ?_
  rintro e w46 ⟨rfl, F47⟩
  have hs48 := hide (F47).size
  replace E := E.trans F47
  replace HB_p := hide ((F47).kept (unhide HB_p))
  replace HB_w0 := hide ((F47).kept (unhide HB_w0))
  replace HB_g0 := hide ((F47).kept (unhide HB_g0))
  replace HO_g0 := hide (K0.oext (unhide HO_g0) F47)
  replace HEw := hide ((unhide HEw).trans F47)
  have c_g0_0 : w46.cell? ⟨w22.heap.size, 0, none⟩ = some (.int .i64 g0_0) := cells_of (unhide HB_g0) 0 _ rfl
  have c_g0_1 : w46.cell? ⟨w22.heap.size, 1, none⟩ = some (.int .i64 g0_1) := cells_of (unhide HB_g0) 1 _ rfl
  have c_g0_2 : w46.cell? ⟨w22.heap.size, 2, none⟩ = some (.slice g0_2a g0_2n g0_2c) := cells_of (unhide HB_g0) 2 _ rfl
  have c_g0_3 : w46.cell? ⟨w22.heap.size, 3, none⟩ = some (.int .i64 g0_3) := cells_of (unhide HB_g0) 3 _ rfl
  have c_g0_4 : w46.cell? ⟨w22.heap.size, 4, none⟩ = some (.int .i64 g0_4) := cells_of (unhide HB_g0) 4 _ rfl
  have c_g0_5 : w46.cell? ⟨w22.heap.size, 5, none⟩ = some (.bool g0_5) := cells_of (unhide HB_g0) 5 _ rfl
  have c_g0_6 : w46.cell? ⟨w22.heap.size, 6, none⟩ = some (.slice g0_6a g0_6n g0_6c) := cells_of (unhide HB_g0) 6 _ rfl
  have c_g0_7 : w46.cell? ⟨w22.heap.size, 7, none⟩ = some (.slice g0_7a g0_7n g0_7c) := cells_of (unhide HB_g0) 7 _ rfl
  go_wp2_with fail
  clear c_g0_0 c_g0_1 c_g0_2 c_g0_3 c_g0_4 c_g0_5 c_g0_6 c_g0_7
  refine ((unhide HMkK0) _ _ _ _ _ (unhide HO_g0) (by omega) (by omega)).mono ?_
  rintro e w49 ⟨rfl, om, F50⟩
  replace E := F50.ext E (fun _ h9 => by have b9 := (unhide HL_g0) _ h9; have z0 := unhide hzW0; have z1 := unhide hs2; have z2 := unhide hs5; have z3 := unhide hs8; have z4 := unhide hs11; have z5 := unhide hzV12; have z6 := unhide hs13; have z7 := unhide hs16; have z8 := unhide hzV17; have z9 := unhide hs18; have z10 := unhide hs21; have z11 := unhide hs24; have z12 := unhide hzV25; have z13 := unhide hs26; have z14 := unhide hs29; have z15 := unhide hs33; have z16 := unhide hs36; have z17 := unhide hs39; have z18 := unhide hs42; have z19 := unhide hs45; have z20 := unhide hs48; omega)
  replace HEw := hide (F50.ext (unhide HEw) (fun _ h9 => by have b9 := (unhide HL_g0) _ h9; have z0 := unhide hzW0; have z1 := unhide hs2; have z2 := unhide hs5; have z3 := unhide hs8; have z4 := unhide hs11; have z5 := unhide hzV12; have z6 := unhide hs13; have z7 := unhide hs16; have z8 := unhide hzV17; have z9 := unhide hs18; have z10 := unhide hs21; have z11 := unhide hs24; have z12 := unhide hzV25; have z13 := unhide hs26; have z14 := unhide hs29; have z15 := unhide hs33; have z16 := unhide hs36; have z17 := unhide hs39; have z18 := unhide hs42; have z19 := unhide hs45; have z20 := unhide hs48; omega))
  replace HB_p := hide (F50.kept (unhide HB_p) (fun h9 => by have b9 := (unhide HL_g0) _ h9; have z0 := unhide hzW0; have z1 := unhide hs2; have z2 := unhide hs5; have z3 := unhide hs8; have z4 := unhide hs11; have z5 := unhide hzV12; have z6 := unhide hs13; have z7 := unhide hs16; have z8 := unhide hzV17; have z9 := unhide hs18; have z10 := unhide hs21; have z11 := unhide hs24; have z12 := unhide hzV25; have z13 := unhide hs26; have z14 := unhide hs29; have z15 := unhide hs33; have z16 := unhide hs36; have z17 := unhide hs39; have z18 := unhide hs42; have z19 := unhide hs45; have z20 := unhide hs48; omega))
  replace HB_w0 := hide (F50.kept (unhide HB_w0) (fun h9 => by have b9 := (unhide HL_g0) _ h9; have z0 := unhide hzW0; have z1 := unhide hs2; have z2 := unhide hs5; have z3 := unhide hs8; have z4 := unhide hs11; have z5 := unhide hzV12; have z6 := unhide hs13; have z7 := unhide hs16; have z8 := unhide hzV17; have z9 := unhide hs18; have z10 := unhide hs21; have z11 := unhide hs24; have z12 := unhide hzV25; have z13 := unhide hs26; have z14 := unhide hs29; have z15 := unhide hs33; have z16 := unhide hs36; have z17 := unhide hs39; have z18 := unhide hs42; have z19 := unhide hs45; have z20 := unhide hs48; omega))
  replace HB_g0 := hide (F50.kept (unhide HB_g0) (fun h9 => by have b9 := (unhide HL_g0) _ h9; have z0 := unhide hzW0; have z1 := unhide hs2; have z2 := unhide hs5; have z3 := unhide hs8; have z4 := unhide hs11; have z5 := unhide hzV12; have z6 := unhide hs13; have z7 := unhide hs16; have z8 := unhide hzV17; have z9 := unhide hs18; have z10 := unhide hs21; have z11 := unhide hs24; have z12 := unhide hzV25; have z13 := unhide hs26; have z14 := unhide hs29; have z15 := unhide hs33; have z16 := unhide hs36; have z17 := unhide hs39; have z18 := unhide hs42; have z19 := unhide hs45; have z20 := unhide hs48; omega))
  have hs51 := hide F50.size
  replace HO_g0 := hide om
  clear om
  have hq0 : ¬ (1 + (mK0 : Int) : Int) < 0 := by omega
  have c_g0_0 : w49.cell? ⟨w22.heap.size, 0, none⟩ = some (.int .i64 g0_0) := cells_of (unhide HB_g0) 0 _ rfl
  have c_g0_1 : w49.cell? ⟨w22.heap.size, 1, none⟩ = some (.int .i64 g0_1) := cells_of (unhide HB_g0) 1 _ rfl
  have c_g0_2 : w49.cell? ⟨w22.heap.size, 2, none⟩ = some (.slice g0_2a g0_2n g0_2c) := cells_of (unhide HB_g0) 2 _ rfl
  have c_g0_3 : w49.cell? ⟨w22.heap.size, 3, none⟩ = some (.int .i64 g0_3) := cells_of (unhide HB_g0) 3 _ rfl
  have c_g0_4 : w49.cell? ⟨w22.heap.size, 4, none⟩ = some (.int .i64 g0_4) := cells_of (unhide HB_g0) 4 _ rfl
  have c_g0_5 : w49.cell? ⟨w22.heap.size, 5, none⟩ = some (.bool g0_5) := cells_of (unhide HB_g0) 5 _ rfl
  have c_g0_6 : w49.cell? ⟨w22.heap.size, 6, none⟩ = some (.slice g0_6a g0_6n g0_6c) := cells_of (unhide HB_g0) 6 _ rfl
  have c_g0_7 : w49.cell? ⟨w22.heap.size, 7, none⟩ = some (.slice g0_7a g0_7n g0_7c) := cells_of (unhide HB_g0) 7 _ rfl
  go_wp2_with fail
  clear c_g0_0 c_g0_1 c_g0_2 c_g0_3 c_g0_4 c_g0_5 c_g0_6 c_g0_7
  refine ((unhide HHdK0) _ _ _ ((MK0 (1)).reads (unhide HO_g0)) (by omega) (by omega)).mono ?_
  rintro e w52 ⟨rfl, F53⟩
  have hs54 := hide (F53).size
  replace E := E.trans F53
  replace HB_p := hide ((F53).kept (unhide HB_p))
  replace HB_w0 := hide ((F53).kept (unhide HB_w0))
  replace HB_g0 := hide ((F53).kept (unhide HB_g0))
  replace HO_g0 := hide ((MK0 (1)).oext (unhide HO_g0) F53)
  replace HEw := hide ((unhide HEw).trans F53)
  have c_p_0 : w52.cell? ⟨w.heap.size, 0, none⟩ = some (.int .i64 p0_0) := cells_of (unhide HB_p) 0 _ rfl
  have c_p_1 : w52.cell? ⟨w.heap.size, 1, none⟩ = some (.int .i64 p0_1) := cells_of (unhide HB_p) 1 _ rfl
  have c_p_2 : w52.cell? ⟨w.heap.size, 2, none⟩ = some (.slice p0_2a p0_2n p0_2c) := cells_of (unhide HB_p) 2 _ rfl
  have c_p_3 : w52.cell? ⟨w.heap.size, 3, none⟩ = some (.int .i64 p0_3) := cells_of (unhide HB_p) 3 _ rfl
  have c_p_4 : w52.cell? ⟨w.heap.size, 4, none⟩ = some (.int .i64 p0_4) := cells_of (unhide HB_p) 4 _ rfl
  have c_p_5 : w52.cell? ⟨w.heap.size, 5, none⟩ = some (.bool p0_5) := cells_of (unhide HB_p) 5 _ rfl
  have c_p_6 : w52.cell? ⟨w.heap.size, 6, none⟩ = some (.slice p0_6a p0_6n p0_6c) := cells_of (unhide HB_p) 6 _ rfl
  have c_p_7 : w52.cell? ⟨w.heap.size, 7, none⟩ = some (.slice p0_7a p0_7n p0_7c) := cells_of (unhide HB_p) 7 _ rfl
  go_wp2_with fail
  clear c_p_0 c_p_1 c_p_2 c_p_3 c_p_4 c_p_5 c_p_6 c_p_7
  refine ((unhide HTo0) _ E).mono ?_
  rintro e w55 ⟨ut0, St0, rfl, ot0, F56⟩
  have HL_t0 : Hid (∀ g, St0 g → w52.heap.size ≤ g ∧ g < w55.heap.size) := hide (X0.lt ot0)
  have hs57 := hide (F56).size
  replace E := E.trans F56
  replace HB_p := hide ((F56).kept (unhide HB_p))
  replace HB_w0 := hide ((F56).kept (unhide HB_w0))
  replace HB_g0 := hide ((F56).kept (unhide HB_g0))
  replace HO_g0 := hide ((MK0 (1)).oext (unhide HO_g0) F56)
  replace HEw := hide ((unhide HEw).trans F56)
  obtain ⟨t0_0, t0_1, t0_2a, t0_2n, t0_2c, t0_3, t0_4, t0_5, t0_6a, t0_6n, t0_6c, t0_7a, t0_7n, t0_7c, rfl⟩ := (unhide ShX0) _ _ (X0.reads ot0)
  have HO_t0 := hide ot0
  clear ot0
  have c_p_0 : w55.cell? ⟨w.heap.size, 0, none⟩ = some (.int .i64 p0_0) := cells_of (unhide HB_p) 0 _ rfl
  have c_p_1 : w55.cell? ⟨w.heap.size, 1, none⟩ = some (.int .i64 p0_1) := cells_of (unhide HB_p) 1 _ rfl
  have c_p_2 : w55.cell? ⟨w.heap.size, 2, none⟩ = some (.slice p0_2a p0_2n p0_2c) := cells_of (unhide HB_p) 2 _ rfl
  have c_p_3 : w55.cell? ⟨w.heap.size, 3, none⟩ = some (.int .i64 p0_3) := cells_of (unhide HB_p) 3 _ rfl
  have c_p_4 : w55.cell? ⟨w.heap.size, 4, none⟩ = some (.int .i64 p0_4) := cells_of (unhide HB_p) 4 _ rfl
  have c_p_5 : w55.cell? ⟨w.heap.size, 5, none⟩ = some (.bool p0_5) := cells_of (unhide HB_p) 5 _ rfl
  have c_p_6 : w55.cell? ⟨w.heap.size, 6, none⟩ = some (.slice p0_6a p0_6n p0_6c) := cells_of (unhide HB_p) 6 _ rfl
  have c_p_7 : w55.cell? ⟨w.heap.size, 7, none⟩ = some (.slice p0_7a p0_7n p0_7c) := cells_of (unhide HB_p) 7 _ rfl
  go_wp2_with fail
  clear c_p_0 c_p_1 c_p_2 c_p_3 c_p_4 c_p_5 c_p_6 c_p_7
  refine ((unhide HTo1) _ E).mono ?_
  rintro e w58 ⟨ut1, St1, rfl, ot1, F59⟩
  have HL_t1 : Hid (∀ g, St1 g → w55.heap.size ≤ g ∧ g < w58.heap.size) := hide (X1.lt ot1)
  have hs60 := hide (F59).size
  replace E := E.trans F59
  replace HB_p := hide ((F59).kept (unhide HB_p))
  replace HB_w0 := hide ((F59).kept (unhide HB_w0))
  replace HB_g0 := hide ((F59).kept (unhide HB_g0))
  replace HO_g0 := hide ((MK0 (1)).oext (unhide HO_g0) F59)
  replace HO_t0 := hide (X0.oext (unhide HO_t0) F59)
  replace HEw := hide ((unhide HEw).trans F59)
  obtain ⟨t1_a, t1_n, t1_c, rfl⟩ := (unhide ShX1) _ _ (X1.reads ot1)
  have HO_t1 := hide ot1
  clear ot1
  go_wp2_with fail
  refine ((unhide HI) _ _ _ E (X0.reads (unhide HO_t0)) (X1.reads (unhide HO_t1))).mono ?_
  rintro e w61 ⟨uh0, Sh0, rfl, oh0, F62⟩
  have HL_h0 : Hid (∀ g, Sh0 g → w58.heap.size ≤ g ∧ g < w61.heap.size) := hide (K0.lt oh0)
  have hs63 := hide (F62).size
  replace E := E.trans F62
  replace HB_p := hide ((F62).kept (unhide HB_p))
  replace HB_w0 := hide ((F62).kept (unhide HB_w0))
  replace HB_g0 := hide ((F62).kept (unhide HB_g0))
  replace HO_g0 := hide ((MK0 (1)).oext (unhide HO_g0) F62)
  replace HO_t0 := hide (X0.oext (unhide HO_t0) F62)
  replace HO_t1 := hide (X1.oext (unhide HO_t1) F62)
  replace HEw := hide ((unhide HEw).trans F62)
  obtain ⟨h0_0, h0_1, h0_2a, h0_2n, h0_2c, h0_3, h0_4, h0_5, h0_6a, h0_6n, h0_6c, h0_7a, h0_7n, h0_7c, rfl⟩ := (unhide ShK0) _ _ (K0.reads oh0)
  have HO_h0 := hide oh0
  clear oh0
  clear HO_t0
  clear HO_t1
  have c_w0_0 : ∀ o0, (w61.alloc o0).cell? ⟨w9.heap.size, 0, none⟩ = some (.int .i64 w0_0) := fun o0 => ((Ext.refl w61).alloc o0).cell (cells_of (unhide HB_w0) 0 _ rfl)
  have c_w0_1 : ∀ o0, (w61.alloc o0).cell? ⟨w9.heap.size, 1, none⟩ = some (.int .i64 w0_1) := fun o0 => ((Ext.refl w61).alloc o0).cell (cells_of (unhide HB_w0) 1 _ rfl)
  have c_w0_2 : ∀ o0, (w61.alloc o0).cell? ⟨w9.heap.size, 2, none⟩ = some (.slice w0_2a w0_2n w0_2c) := fun o0 => ((Ext.refl w61).alloc o0).cell (cells_of (unhide HB_w0) 2 _ rfl)
  have c_w0_3 : ∀ o0, (w61.alloc o0).cell? ⟨w9.heap.size, 3, none⟩ = some (.int .i64 w0_3) := fun o0 => ((Ext.refl w61).alloc o0).cell (cells_of (unhide HB_w0) 3 _ rfl)
  have c_w0_4 : ∀ o0, (w61.alloc o0).cell? ⟨w9.heap.size, 4, none⟩ = some (.int .i64 w0_4) := fun o0 => ((Ext.refl w61).alloc o0).cell (cells_of (unhide HB_w0) 4 _ rfl)
  have c_w0_5 : ∀ o0, (w61.alloc o0).cell? ⟨w9.heap.size, 5, none⟩ = some (.bool w0_5) := fun o0 => ((Ext.refl w61).alloc o0).cell (cells_of (unhide HB_w0) 5 _ rfl)
  have c_w0_6 : ∀ o0, (w61.alloc o0).cell? ⟨w9.heap.size, 6, none⟩ = some (.slice w0_6a w0_6n w0_6c) := fun o0 => ((Ext.refl w61).alloc o0).cell (cells_of (unhide HB_w0) 6 _ rfl)
  have c_w0_7 : ∀ o0, (w61.alloc o0).cell? ⟨w9.heap.size, 7, none⟩ = some (.slice w0_7a w0_7n w0_7c) := fun o0 => ((Ext.refl w61).alloc o0).cell (cells_of (unhide HB_w0) 7 _ rfl)
  go_wp2_with fail
  clear c_w0_0 c_w0_1 c_w0_2 c_w0_3 c_w0_4 c_w0_5 c_w0_6 c_w0_7
  obtain ⟨V64, hV64⟩ : ∃ V64, V64 = w61.alloc (.cells #[.int .i64 h0_0, .int .i64 h0_1, .slice h0_2a h0_2n h0_2c, .int .i64 h0_3, .int .i64 h0_4, .bool h0_5, .slice h0_6a h0_6n h0_6c, .slice h0_7a h0_7n h0_7c] 26) := ⟨_, rfl⟩
  rw [← hV64]
  have FV64 : Ext w61 V64 := by rw [hV64]; exact (Ext.refl w61).alloc _
  have HB_h0 : Hid (V64.heap[w61.heap.size]? = some (.cells #[.int .i64 h0_0, .int .i64 h0_1, .slice h0_2a h0_2n h0_2c, .int .i64 h0_3, .int .i64 h0_4, .bool h0_5, .slice h0_6a h0_6n h0_6c, .slice h0_7a h0_7n h0_7c] 26 (0, 0))) := hide (by rw [hV64]; exact new_block w61 _)
  have hzV64 := hide (lt_of_block (unhide HB_h0))
  clear hV64
  have hs65 := hide (FV64).size
  replace E := E.trans FV64
  replace HB_p := hide ((FV64).kept (unhide HB_p))
  replace HB_w0 := hide ((FV64).kept (unhide HB_w0))
  replace HB_g0 := hide ((FV64).kept (unhide HB_g0))
  replace HO_g0 := hide ((MK0 (1)).oext (unhide HO_g0) FV64)
  replace HO_h0 := hide (K0.oext (unhide HO_h0) FV64)
  replace HEw := hide ((unhide HEw).trans FV64)
  refine ((unhide HEqK0) _ _ _ (K0.reads (unhide HO_h0)) (K0.rext (unhide HR_w0) (unhide HEw))).mono ?_
  rintro e w66 ⟨rfl, F67⟩
  have hs68 := hide (F67).size
  replace E := E.trans F67
  replace HB_p := hide ((F67).kept (unhide HB_p))
  replace HB_w0 := hide ((F67).kept (unhide HB_w0))
  replace HB_g0 := hide ((F67).kept (unhide HB_g0))
  replace HB_h0 := hide ((F67).kept (unhide HB_h0))
  replace HO_g0 := hide ((MK0 (1)).oext (unhide HO_g0) F67)
  replace HO_h0 := hide (K0.oext (unhide HO_h0) F67)
  replace HEw := hide ((unhide HEw).trans F67)
  have hq0 : ¬ (1 + (mK0 : Int) : Int) < 0 := by omega
  have c_g0_0 : w66.cell? ⟨w22.heap.size, 0, none⟩ = some (.int .i64 g0_0) := cells_of (unhide HB_g0) 0 _ rfl
  have c_g0_1 : w66.cell? ⟨w22.heap.size, 1, none⟩ = some (.int .i64 g0_1) := cells_of (unhide HB_g0) 1 _ rfl
  have c_g0_2 : w66.cell? ⟨w22.heap.size, 2, none⟩ = some (.slice g0_2a g0_2n g0_2c) := cells_of (unhide HB_g0) 2 _ rfl
  have c_g0_3 : w66.cell? ⟨w22.heap.size, 3, none⟩ = some (.int .i64 g0_3) := cells_of (unhide HB_g0) 3 _ rfl
  have c_g0_4 : w66.cell? ⟨w22.heap.size, 4, none⟩ = some (.int .i64 g0_4) := cells_of (unhide HB_g0) 4 _ rfl
  have c_g0_5 : w66.cell? ⟨w22.heap.size, 5, none⟩ = some (.bool g0_5) := cells_of (unhide HB_g0) 5 _ rfl
  have c_g0_6 : w66.cell? ⟨w22.heap.size, 6, none⟩ = some (.slice g0_6a g0_6n g0_6c) := cells_of (unhide HB_g0) 6 _ rfl
  have c_g0_7 : w66.cell? ⟨w22.heap.size, 7, none⟩ = some (.slice g0_7a g0_7n g0_7c) := cells_of (unhide HB_g0) 7 _ rfl
  go_wp2_with fail
  clear c_g0_0 c_g0_1 c_g0_2 c_g0_3 c_g0_4 c_g0_5 c_g0_6 c_g0_7
  refine ((unhide HHdK0) _ _ _ ((MK0 (1)).reads (unhide HO_g0)) (by omega) (by omega)).mono ?_
  rintro e w69 ⟨rfl, F70⟩
  have hs71 := hide (F70).size
  replace E := E.trans F70
  replace HB_p := hide ((F70).kept (unhide HB_p))
  replace HB_w0 := hide ((F70).kept (unhide HB_w0))
  replace HB_g0 := hide ((F70).kept (unhide HB_g0))
  replace HB_h0 := hide ((F70).kept (unhide HB_h0))
  replace HO_g0 := hide ((MK0 (1)).oext (unhide HO_g0) F70)
  replace HO_h0 := hide (K0.oext (unhide HO_h0) F70)
  replace HEw := hide ((unhide HEw).trans F70)
  go_wp2
  go_ret
  exact ⟨rfl, E.below⟩
end Go.Proofs.YtinfdhbnljnifaaGreatDoor
