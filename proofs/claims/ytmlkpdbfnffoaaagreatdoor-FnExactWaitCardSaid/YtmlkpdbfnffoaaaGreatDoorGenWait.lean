import Derived.Test.YtmlkpdbfnffoaaaGreatDoorSpecRune2
import Derived.Deep.RegionLaw
import Derived.Deep.DeepCutAuto
namespace Go.Proofs.YtmlkpdbfnffoaaaGreatDoor
open Go.RowKit
theorem zq : (Tryz.prog.info? 40).map (·.size) = some 17 := by kernel_rfl
theorem zaX : (Tryz.prog.info? 30).map (·.size) = some 17 := by kernel_rfl
theorem new2 (w : World) (o o' : Obj) : ((w.alloc o).alloc o').heap[w.heap.size + 1]? = some o' := by have h := zn (w.alloc o) o'; rw [show (w.alloc o).heap.size = w.heap.size + 1 by simp] at h; exact h
set_option linter.unusedSimpArgs false in
set_option maxRecDepth 10000 in
set_option maxHeartbeats 32000000 in
theorem zmC (p0_cs : Array Value) (p1_0 : Int) (p1_1a : Option Addr) (p1_1n : Nat) (p1_1c : Nat) (q3 : Int) (w : World)
  (Hz_p0_cs : Hid (p0_cs.size = 17))
  (X0 : Kd) (MX0 : Int → Kd) (mX0 : Nat)
  (X1 : Kd) (MX1 : Int → Kd) (mX1 : Nat)
  (K0 : Kd) (MK0 : Int → Kd) (mK0 : Nat)
  (K1 : Kd) (MK1 : Int → Kd) (mK1 : Nat)
  (K2 : Kd) (MK2 : Int → Kd) (mK2 : Nat)
  (Fit0 Fit1 : Prop)
  (HZ0 : Hid (∀ (W : World) (l : Int), Ext w W → 0 ≤ l → l ≤ 1048576 → Calls Tryz.prog 5 #[.agg p0_cs, .int .i64 l] W fun e w' => ∃ r : Int, e = .returned (.int .i64 r) ∧ r ≤ l ∧ (0 ≤ r → Fit0) ∧ Ext W w'))
  (HZ1 : Hid (∀ (W : World) (l : Int), Ext w W → 0 ≤ l → l ≤ 1048576 → Calls Tryz.prog 6 #[.agg #[.int .i64 p1_0, .slice p1_1a p1_1n p1_1c], .int .i64 l] W fun e w' => ∃ r : Int, e = .returned (.int .i64 r) ∧ r ≤ l ∧ (0 ≤ r → Fit1) ∧ Ext W w'))
  (HTo0' : Hid (Fit0 ∧ Fit1 → ∀ W, Ext w W → Calls Tryz.prog 8 #[.agg p0_cs] W fun e w' => ∃ u S, e = .returned u ∧ X0.O w' W.heap.size S u ∧ Ext W w'))
  (ShX0 : Hid (∀ W u, X0.R W u → ∃ (x : Array Value), u = .agg x ∧ x.size = 17 ∧ x.all (·.oneCell') = true))
  (HEqX0' : Hid (Fit0 ∧ Fit1 → zjz 11 X0)) (HMkX0' : Hid (Fit0 ∧ Fit1 → zd4 14 X0 MX0 mX0 ∧ mX0 ≤ 17179869184))
  (HTo1' : Hid (Fit0 ∧ Fit1 → ∀ W, Ext w W → Calls Tryz.prog 9 #[.agg #[.int .i64 p1_0, .slice p1_1a p1_1n p1_1c]] W fun e w' => ∃ u S, e = .returned u ∧ X1.O w' W.heap.size S u ∧ Ext W w'))
  (ShX1 : Hid (∀ W u, X1.R W u → ∃ (x0 : Int) (x1a : Option Addr) (x1n : Nat) (x1c : Nat), u = .agg #[.int .i64 x0, .slice x1a x1n x1c]))
  (HEqX1' : Hid (Fit0 ∧ Fit1 → zjz 12 X1)) (HMkX1' : Hid (Fit0 ∧ Fit1 → zd4 15 X1 MX1 mX1 ∧ mX1 ≤ 17179869184))
  (HS' : Hid (Fit0 ∧ Fit1 → ∀ (W : World) (u0 : Value) (u1 : Value), Ext w W → X0.R W u0 → X1.R W u1 → Calls Tryz.prog 7 #[u0, u1] W fun e w' => ∃ v0 S0 v1 S1 v2 S2, e = .returned (.tuple #[v0, v1, v2, .int .i64 q3]) ∧ K0.O w' W.heap.size S0 v0 ∧ K1.O w' W.heap.size S1 v1 ∧ K2.O w' W.heap.size S2 v2 ∧ (∀ g, S0 g → ¬ S1 g) ∧ (∀ g, S0 g → ¬ S2 g) ∧ (∀ g, S1 g → ¬ S2 g) ∧ Ext W w'))
  (HI' : Hid (Fit0 ∧ Fit1 → ∀ (W : World) (u0 : Value) (u1 : Value), Ext w W → X0.R W u0 → X1.R W u1 → Calls Tryz.prog 10 #[u0, u1] W fun e w' => ∃ v0 S0 v1 S1 v2 S2, e = .returned (.tuple #[v0, v1, v2, .int .i64 q3]) ∧ K0.O w' W.heap.size S0 v0 ∧ K1.O w' W.heap.size S1 v1 ∧ K2.O w' W.heap.size S2 v2 ∧ (∀ g, S0 g → ¬ S1 g) ∧ (∀ g, S0 g → ¬ S2 g) ∧ (∀ g, S1 g → ¬ S2 g) ∧ Ext W w'))
  (ShK0 : Hid (∀ W u, K0.R W u → ∃ (x : Array Value), u = .agg x ∧ x.size = 17 ∧ x.all (·.oneCell') = true))
  (HEqK0' : Hid (Fit0 ∧ Fit1 → zjz 11 K0)) (HMkK0' : Hid (Fit0 ∧ Fit1 → zd4 14 K0 MK0 mK0 ∧ mK0 ≤ 17179869184)) (HHdK0' : Hid (Fit0 ∧ Fit1 → zfO 17 MK0 mK0))
  (ShK1 : Hid (∀ W u, K1.R W u → ∃ (x0 : Int) (x1a : Option Addr) (x1n : Nat) (x1c : Nat), u = .agg #[.int .i64 x0, .slice x1a x1n x1c]))
  (HEqK1' : Hid (Fit0 ∧ Fit1 → zjz 12 K1)) (HMkK1' : Hid (Fit0 ∧ Fit1 → zd4 15 K1 MK1 mK1 ∧ mK1 ≤ 17179869184)) (HHdK1' : Hid (Fit0 ∧ Fit1 → zfO 18 MK1 mK1))
  (ShK2 : Hid (∀ W u, K2.R W u → ∃ (xa : Option Addr) (xn : Nat) (xc : Nat), u = .slice xa xn xc))
  (HEqK2' : Hid (Fit0 ∧ Fit1 → zjz 13 K2)) (HMkK2' : Hid (Fit0 ∧ Fit1 → zd4 16 K2 MK2 mK2 ∧ mK2 ≤ 17179869184)) (HHdK2' : Hid (Fit0 ∧ Fit1 → zfO 19 MK2 mK2))
  : Calls Tryz.prog 3 #[.agg p0_cs, .agg #[.int .i64 p1_0, .slice p1_1a p1_1n p1_1c]] w fun e w' => e = .returned (.bool true) ∧ Below w.heap.size w w' := by
 go_enter Tryz.func3, Tryz.ntmps3
 go_wp2_with (refine zm rfl 30 _ rfl (w.heap.size) rfl _ _ _ _ (((Ext.refl _).alloc _).kept (zn w _)) Tryz.underlying30 rfl (by rw [zg Hz_p0_cs]; exact zaX) ?_)
 obtain ⟨W0, hW0⟩ : ∃ W0, W0 = ((w.alloc (.cells p0_cs 30)).alloc (.cells #[.int .i64 p1_0, .slice p1_1a p1_1n p1_1c] 32)) := ⟨_, rfl⟩
 rw [← hW0]
 have E : Ext w W0 := by rw [hW0]; exact (((Ext.refl w).alloc _).alloc _)
 have HB_p0 : Hid (W0.heap[w.heap.size]? = some (.cells p0_cs 30 (0, 0))) := zi (by rw [hW0]; have h := zn w (.cells p0_cs 30); exact ((Ext.refl _).alloc _).kept h)
 have HB_p1 : Hid (W0.heap[w.heap.size + 1]? = some (.cells #[.int .i64 p1_0, .slice p1_1a p1_1n p1_1c] 32 (0, 0))) := zi (by rw [hW0]; have h := zn (w.alloc (.cells p0_cs 30)) (.cells #[.int .i64 p1_0, .slice p1_1a p1_1n p1_1c] 32); rw [show ((w.alloc (.cells p0_cs 30))).heap.size = w.heap.size + 1 by simp] at h; exact (Ext.refl _).kept h)
 have hzW0 := zi (zt (zg HB_p1))
 clear hW0
 have hp0 : (0 : Int) ≤ 1048576 := by omega
 have hq0 : (1048576 : Int) ≤ 1048576 := by omega
 refine ((zg HZ0) _ _ E hp0 hq0).mono ?_
 rintro e w1 ⟨r0, rfl, hle0, hr0, F2⟩
 have hs3 := zi (F2).size
 replace E := E.trans F2
 replace HB_p0 := zi ((F2).kept (zg HB_p0))
 replace HB_p1 := zi ((F2).kept (zg HB_p1))
 by_cases hn0 : r0 < 0
 ·go_wp2
  go_ret
  exact ⟨rfl, E.below⟩
 have hp1 : 0 ≤ r0 := by omega
 have hq1 : r0 ≤ 1048576 := by omega
 have hfit0 : Fit0 := hr0 hp1
 clear hr0 HZ0
 have c_p1_0 := zk (zg HB_p1) 0 _ rfl
 have c_p1_1 := zk (zg HB_p1) 1 _ rfl
 go_wp2_with fail
 clear c_p1_0 c_p1_1
 refine ((zg HZ1) _ _ E hp1 hq1).mono ?_
 rintro e w4 ⟨r1, rfl, hle1, hr1, F5⟩
 have hs6 := zi (F5).size
 replace E := E.trans F5
 replace HB_p0 := zi ((F5).kept (zg HB_p0))
 replace HB_p1 := zi ((F5).kept (zg HB_p1))
 by_cases hn1 : r1 < 0
 ·go_wp2
  go_ret
  exact ⟨rfl, E.below⟩
 have hp2 : 0 ≤ r1 := by omega
 have hq2 : r1 ≤ 1048576 := by omega
 have hfit1 : Fit1 := hr1 hp2
 clear hr1 HZ1
 have hfit := And.intro hfit0 hfit1
 clear hfit0 hfit1
 clear hp0 hq0 hp1 hq1 hp2 hq2 hle0 hle1
 have HTo0 := zi ((zg HTo0') hfit)
 have HEqX0 := zi ((zg HEqX0') hfit)
 have HMkX0 := zi ((zg HMkX0') hfit).1
 have hmX0 := ((zg HMkX0') hfit).2
 clear HMkX0'
 clear HTo0' HEqX0'
 have HTo1 := zi ((zg HTo1') hfit)
 have HEqX1 := zi ((zg HEqX1') hfit)
 have HMkX1 := zi ((zg HMkX1') hfit).1
 have hmX1 := ((zg HMkX1') hfit).2
 clear HMkX1'
 clear HTo1' HEqX1'
 have HEqK0 := zi ((zg HEqK0') hfit)
 have HMkK0 := zi ((zg HMkK0') hfit).1
 have hmK0 := ((zg HMkK0') hfit).2
 have HHdK0 := zi ((zg HHdK0') hfit)
 clear HEqK0' HMkK0' HHdK0'
 have HEqK1 := zi ((zg HEqK1') hfit)
 have HMkK1 := zi ((zg HMkK1') hfit).1
 have hmK1 := ((zg HMkK1') hfit).2
 have HHdK1 := zi ((zg HHdK1') hfit)
 clear HEqK1' HMkK1' HHdK1'
 have HEqK2 := zi ((zg HEqK2') hfit)
 have HMkK2 := zi ((zg HMkK2') hfit).1
 have hmK2 := ((zg HMkK2') hfit).2
 have HHdK2 := zi ((zg HHdK2') hfit)
 clear HEqK2' HMkK2' HHdK2'
 have HS := zi ((zg HS') hfit)
 have HI := zi ((zg HI') hfit)
 clear HS' HI' hfit
 go_upto_region 8 with fail
 go_cut [6, 7, 8, 9] (fun v0 v1 v2 v3 wq => ∃ (bw0 : Nat) (bw1 : Nat) (w0_cs : Array Value) (w1_0 : Int) (w1_1a : Option Addr) (w1_1n : Nat) (w1_1c : Nat) (w2_a : Option Addr) (w2_n : Nat) (w2_c : Nat) (Bw0 : Nat) (Sw0 : Nat → Prop) (Bw1 : Nat) (Sw1 : Nat → Prop) (Bw2 : Nat) (Sw2 : Nat → Prop), v0 = .pointer (some ⟨bw0, 0, none⟩) ∧ v1 = .pointer (some ⟨bw1, 0, none⟩) ∧ v2 = .slice w2_a w2_n w2_c ∧ v3 = .int .i64 q3 ∧ Hid (wq.heap[bw0]? = some (.cells w0_cs 40 (0, 0))) ∧ Hid (w4.heap.size ≤ bw0) ∧ Hid (wq.heap[bw1]? = some (.cells #[.int .i64 w1_0, .slice w1_1a w1_1n w1_1c] 41 (0, 0))) ∧ Hid (w4.heap.size ≤ bw1) ∧ Hid (K0.O wq Bw0 Sw0 (.agg w0_cs)) ∧ Hid (∀ g, Sw0 g → w4.heap.size ≤ g ∧ g < wq.heap.size ∧ g ≠ bw0 ∧ g ≠ bw1) ∧ Hid (w0_cs.size = 17) ∧ Hid (w0_cs.all (·.oneCell') = true) ∧ Hid (K1.O wq Bw1 Sw1 (.agg #[.int .i64 w1_0, .slice w1_1a w1_1n w1_1c])) ∧ Hid (∀ g, Sw1 g → w4.heap.size ≤ g ∧ g < wq.heap.size ∧ g ≠ bw0 ∧ g ≠ bw1) ∧ Hid (K2.O wq Bw2 Sw2 (.slice w2_a w2_n w2_c)) ∧ Hid (∀ g, Sw2 g → w4.heap.size ≤ g ∧ g < wq.heap.size ∧ g ≠ bw0 ∧ g ≠ bw1) ∧ Hid (∀ g, Sw0 g → ¬ Sw1 g) ∧ Hid (∀ g, Sw0 g → ¬ Sw2 g) ∧ Hid (∀ g, Sw1 g → ¬ Sw2 g) ∧ Hid (bw0 ≠ bw1) ∧ Hid (Ext w4 wq))
 case first =>
  refine wp_region_held_drew (S := fun W => W.heap[w.heap.size]? = some (.cells p0_cs 30 (0, 0)) ∧ W.heap[w.heap.size + 1]? = some (.cells #[.int .i64 p1_0, .slice p1_1a p1_1n p1_1c] 32 (0, 0))) (by kernel_rfl) (⟨zg HB_p0, zg HB_p1⟩) (fun hHeld => ?_)
  refine tk 0 (.agg p0_cs) rfl (by kernel_rfl) (fun _ _ _ h => h) (by rfl) ?_ (by assumption) ?_
  ·intro w' hSw; exact zae 30 _ rfl (w.heap.size) rfl _ _ _ _ (hSw.1) Tryz.underlying30 rfl (by rw [zg Hz_p0_cs]; exact zaX)
  simp only [Act.put, q9]
  refine tk 2 (.agg #[.int .i64 p1_0, .slice p1_1a p1_1n p1_1c]) rfl (by kernel_rfl) (fun _ _ _ h => h) (by rfl) ?_ (by assumption) ?_
  ·intro w' hSw; exact zae 32 _ rfl (w.heap.size + 1) rfl _ _ _ _ (hSw.2) Tryz.underlying32 rfl (by kernel_rfl)
  simp only [Act.put, q9]
  have G := zi ((Ext.refl w4).drew)
  generalize w4.drew = Wc at *
  revert hHeld; revert G; revert Wc; have tS : Tk 0 := rfl; revert tS
  refine' (fun (k311 : (_ : Prop)) => _) _; rotate_left
  refine' (fun (k301 : (_ : Prop)) => _) _; rotate_left
  refine' (fun (k310 : (_ : Prop)) => _) _; rotate_left
  refine' (fun (k211 : (_ : Prop)) => _) _; rotate_left
  refine' (fun (k300 : (_ : Prop)) => _) _; rotate_left
  refine' (fun (k201 : (_ : Prop)) => _) _; rotate_left
  refine' (fun (k210 : (_ : Prop)) => _) _; rotate_left
  refine' (fun (k111 : (_ : Prop)) => _) _; rotate_left
  refine' (fun (k200 : (_ : Prop)) => _) _; rotate_left
  refine' (fun (k101 : (_ : Prop)) => _) _; rotate_left
  refine' (fun (k110 : (_ : Prop)) => _) _; rotate_left
  refine' (fun (k011 : (_ : Prop)) => _) _; rotate_left
  refine' (fun (k100 : (_ : Prop)) => _) _; rotate_left
  refine' (fun (k001 : (_ : Prop)) => _) _; rotate_left
  refine' (fun (k010 : (_ : Prop)) => _) _; rotate_left
  iterate 15 (intro tS; ((first
   | (have _t : Tk 0 := tS; clear _t tS; intro Wc G hHeld; have tC : Tk 0 := rfl; refine wpAnyH_ready (rs := [1, 10, 11]) (by kernel_rfl) (by simp) ?_; refine (AllReadyH.cons rfl (fun K hK => (fun (tE : Tk 0) => ?_) rfl) (AllReadyH.cons rfl (fun K hK => (fun (tE : Tk 10) => ?_) rfl) (AllReadyH.cons rfl (fun K hK => (fun (tE : Tk 11) => ?_) rfl) AllReadyH.nil))))
   | (have _t : Tk 1 := tS; clear _t tS; intro Wc b0 G hHeld HM0 HB0; have tC : Tk 0 := rfl; refine wpAnyH_ready (rs := [1, 11]) (by kernel_rfl) (by simp) ?_; refine (AllReadyH.cons rfl (fun K hK => (fun (tE : Tk 0) => ?_) rfl) (AllReadyH.cons rfl (fun K hK => (fun (tE : Tk 11) => ?_) rfl) AllReadyH.nil)))
   | (have _t : Tk 2 := tS; clear _t tS; intro Wc b1 G hHeld HM1 HB1; have tC : Tk 0 := rfl; refine wpAnyH_ready (rs := [1, 10]) (by kernel_rfl) (by simp) ?_; refine (AllReadyH.cons rfl (fun K hK => (fun (tE : Tk 0) => ?_) rfl) (AllReadyH.cons rfl (fun K hK => (fun (tE : Tk 10) => ?_) rfl) AllReadyH.nil)))
   | (have _t : Tk 3 := tS; clear _t tS; intro Wc t0_cs G hHeld HR_t0; have tC : Tk 1 := rfl; refine wpAnyH_ready (rs := [3, 10, 11]) (by kernel_rfl) (by simp) ?_; refine (AllReadyH.cons rfl (fun K hK => (fun (tE : Tk 1) => ?_) rfl) (AllReadyH.cons rfl (fun K hK => (fun (tE : Tk 10) => ?_) rfl) (AllReadyH.cons rfl (fun K hK => (fun (tE : Tk 11) => ?_) rfl) AllReadyH.nil))))
   | (have _t : Tk 4 := tS; clear _t tS; intro Wc b0 b1 G hHeld HM0 HB0 HM1 HB1 HN01; have tC : Tk 0 := rfl; refine wpAnyH_ready (rs := [1]) (by kernel_rfl) (by simp) ?_; refine (AllReadyH.cons rfl (fun K hK => (fun (tE : Tk 0) => ?_) rfl) AllReadyH.nil))
   | (have _t : Tk 5 := tS; clear _t tS; intro Wc b0 t0_cs G hHeld HM0 HB0 HR_t0; have tC : Tk 1 := rfl; refine wpAnyH_ready (rs := [3, 11]) (by kernel_rfl) (by simp) ?_; refine (AllReadyH.cons rfl (fun K hK => (fun (tE : Tk 1) => ?_) rfl) (AllReadyH.cons rfl (fun K hK => (fun (tE : Tk 11) => ?_) rfl) AllReadyH.nil)))
   | (have _t : Tk 6 := tS; clear _t tS; intro Wc b1 t0_cs G hHeld HM1 HB1 HR_t0; have tC : Tk 1 := rfl; refine wpAnyH_ready (rs := [3, 10]) (by kernel_rfl) (by simp) ?_; refine (AllReadyH.cons rfl (fun K hK => (fun (tE : Tk 1) => ?_) rfl) (AllReadyH.cons rfl (fun K hK => (fun (tE : Tk 10) => ?_) rfl) AllReadyH.nil)))
   | (have _t : Tk 7 := tS; clear _t tS; intro Wc t0_cs t1_0 t1_1a t1_1n t1_1c G hHeld HR_t0 HR_t1; have tC : Tk 2 := rfl; refine wpAnyH_ready (rs := [4, 10, 11]) (by kernel_rfl) (by simp) ?_; refine (AllReadyH.cons rfl (fun K hK => (fun (tE : Tk 2) => ?_) rfl) (AllReadyH.cons rfl (fun K hK => (fun (tE : Tk 10) => ?_) rfl) (AllReadyH.cons rfl (fun K hK => (fun (tE : Tk 11) => ?_) rfl) AllReadyH.nil))))
   | (have _t : Tk 8 := tS; clear _t tS; intro Wc b0 b1 t0_cs G hHeld HM0 HB0 HM1 HB1 HN01 HR_t0; have tC : Tk 1 := rfl; refine wpAnyH_ready (rs := [3]) (by kernel_rfl) (by simp) ?_; refine (AllReadyH.cons rfl (fun K hK => (fun (tE : Tk 1) => ?_) rfl) AllReadyH.nil))
   | (have _t : Tk 9 := tS; clear _t tS; intro Wc b0 t0_cs t1_0 t1_1a t1_1n t1_1c G hHeld HM0 HB0 HR_t0 HR_t1; have tC : Tk 2 := rfl; refine wpAnyH_ready (rs := [4, 11]) (by kernel_rfl) (by simp) ?_; refine (AllReadyH.cons rfl (fun K hK => (fun (tE : Tk 2) => ?_) rfl) (AllReadyH.cons rfl (fun K hK => (fun (tE : Tk 11) => ?_) rfl) AllReadyH.nil)))
   | (have _t : Tk 10 := tS; clear _t tS; intro Wc b1 t0_cs t1_0 t1_1a t1_1n t1_1c G hHeld HM1 HB1 HR_t0 HR_t1; have tC : Tk 2 := rfl; refine wpAnyH_ready (rs := [4, 10]) (by kernel_rfl) (by simp) ?_; refine (AllReadyH.cons rfl (fun K hK => (fun (tE : Tk 2) => ?_) rfl) (AllReadyH.cons rfl (fun K hK => (fun (tE : Tk 10) => ?_) rfl) AllReadyH.nil)))
   | (have _t : Tk 11 := tS; clear _t tS; intro Wc t0_cs t1_0 t1_1a t1_1n t1_1c w0_cs w1_0 w1_1a w1_1n w1_1c w2_a w2_n w2_c S0 S1 S2 B9 G hHeld HPP HOo0 HOo1 HOo2 Hz0 Ho0 HDd01 HDd02 HDd12; have tC : Tk 3 := rfl; refine wpAnyH_ready (rs := [10, 11]) (by kernel_rfl) (by simp) ?_; refine (AllReadyH.cons rfl (fun K hK => (fun (tE : Tk 10) => ?_) rfl) (AllReadyH.cons rfl (fun K hK => (fun (tE : Tk 11) => ?_) rfl) AllReadyH.nil)))
   | (have _t : Tk 12 := tS; clear _t tS; intro Wc b0 b1 t0_cs t1_0 t1_1a t1_1n t1_1c G hHeld HM0 HB0 HM1 HB1 HN01 HR_t0 HR_t1; have tC : Tk 2 := rfl; refine wpAnyH_ready (rs := [4]) (by kernel_rfl) (by simp) ?_; refine (AllReadyH.cons rfl (fun K hK => (fun (tE : Tk 2) => ?_) rfl) AllReadyH.nil))
   | (have _t : Tk 13 := tS; clear _t tS; intro Wc b0 t0_cs t1_0 t1_1a t1_1n t1_1c w0_cs w1_0 w1_1a w1_1n w1_1c w2_a w2_n w2_c S0 S1 S2 B9 G hHeld HM0 HB0 HPP HOo0 HOo1 HOo2 Hz0 Ho0 HDd01 HDd02 HDd12 HQ0; have tC : Tk 3 := rfl; refine wpAnyH_ready (rs := [11]) (by kernel_rfl) (by simp) ?_; refine (AllReadyH.cons rfl (fun K hK => (fun (tE : Tk 11) => ?_) rfl) AllReadyH.nil))
   | (have _t : Tk 14 := tS; clear _t tS; intro Wc b1 t0_cs t1_0 t1_1a t1_1n t1_1c w0_cs w1_0 w1_1a w1_1n w1_1c w2_a w2_n w2_c S0 S1 S2 B9 G hHeld HM1 HB1 HPP HOo0 HOo1 HOo2 Hz0 Ho0 HDd01 HDd02 HDd12 HQ1; have tC : Tk 3 := rfl; refine wpAnyH_ready (rs := [10]) (by kernel_rfl) (by simp) ?_; refine (AllReadyH.cons rfl (fun K hK => (fun (tE : Tk 10) => ?_) rfl) AllReadyH.nil))
  ) <;> (go_simp; first
   | (have _t : Tk 0 := tE; clear _t tE; refine ((zg HTo0) _ (E.trans (zg G))).mono ?_; rintro e Wc ⟨u9, S9, rfl, o9, f9⟩; (try replace HM0 := f9.hk HM0); (try replace HB0 : Hid (w4.heap.size ≤ b0 ∧ b0 < Wc.heap.size) := zi (by have h1 := zg HB0; have h2 := f9.size; omega)); (try replace HM1 := f9.hk HM1); (try replace HB1 : Hid (w4.heap.size ≤ b1 ∧ b1 < Wc.heap.size) := zi (by have h1 := zg HB1; have h2 := f9.size; omega)); (try replace HR_t0 := zi (X0.rext (zg HR_t0) f9)); (try replace HR_t1 := zi (X1.rext (zg HR_t1) f9)); have HR_t0 := zi (X0.reads o9); obtain ⟨t0_cs, rfl, z8, z9⟩ := (zg ShX0) _ _ (zg HR_t0); clear o9; clear z8 z9; replace G := Hid.ht G f9; clear f9 hHeld; refine hK.out _ _ ⟨(zg G).kept (zg HB_p0), (zg G).kept (zg HB_p1)⟩ (fun hHeld => ?_); clear hK K; clear tC; have tC : Tk 1 := rfl)
   | (have _t : Tk 1 := tE; clear _t tE; refine ((zg HTo1) _ (E.trans (zg G))).mono ?_; rintro e Wc ⟨u9, S9, rfl, o9, f9⟩; (try replace HM0 := f9.hk HM0); (try replace HB0 : Hid (w4.heap.size ≤ b0 ∧ b0 < Wc.heap.size) := zi (by have h1 := zg HB0; have h2 := f9.size; omega)); (try replace HM1 := f9.hk HM1); (try replace HB1 : Hid (w4.heap.size ≤ b1 ∧ b1 < Wc.heap.size) := zi (by have h1 := zg HB1; have h2 := f9.size; omega)); (try replace HR_t0 := zi (X0.rext (zg HR_t0) f9)); (try replace HR_t1 := zi (X1.rext (zg HR_t1) f9)); have HR_t1 := zi (X1.reads o9); obtain ⟨t1_0, t1_1a, t1_1n, t1_1c, rfl⟩ := (zg ShX1) _ _ (zg HR_t1); clear o9; replace G := Hid.ht G f9; clear f9 hHeld; refine hK.out _ _ ⟨(zg G).kept (zg HB_p0), (zg G).kept (zg HB_p1)⟩ (fun hHeld => ?_); clear hK K; clear tC; have tC : Tk 2 := rfl)
   | (have _t : Tk 2 := tE; clear _t tE; have HZ9 := zi (zg G).size; obtain ⟨B9, hB9⟩ : ∃ B, B = Wc.heap.size := ⟨_, rfl⟩; refine ((zg HS) _ _ _ (E.trans (zg G)) (zg HR_t0) (zg HR_t1)).mono ?_; rintro e Wc ⟨u0, S0, u1, S1, u2, S2, rfl, o0, o1, o2, a01, a02, a12, f9⟩; have HPP : Hid (∀ g, S0 g ∨ S1 g ∨ S2 g → w4.heap.size ≤ g ∧ g < Wc.heap.size) := zi (fun g9 h9 => by have h2 := zg HZ9; rcases h9 with h9 | h9 | h9; have h1 := K0.lt o0 g9 h9; omega; have h1 := K1.lt o1 g9 h9; omega; have h1 := K2.lt o2 g9 h9; omega); (try have HQ0 : Hid (∀ g, S0 g ∨ S1 g ∨ S2 g → g ≠ b0) := zi (fun g9 h9 => by have h3 := zg HB0; rcases h9 with h9 | h9 | h9; have h1 := K0.lt o0 g9 h9; omega; have h1 := K1.lt o1 g9 h9; omega; have h1 := K2.lt o2 g9 h9; omega)); (try have HQ1 : Hid (∀ g, S0 g ∨ S1 g ∨ S2 g → g ≠ b1) := zi (fun g9 h9 => by have h3 := zg HB1; rcases h9 with h9 | h9 | h9; have h1 := K0.lt o0 g9 h9; omega; have h1 := K1.lt o1 g9 h9; omega; have h1 := K2.lt o2 g9 h9; omega)); rw [← hB9] at o0 o1 o2; clear hB9; obtain ⟨w0_cs, rfl, hz09, ho09⟩ := (zg ShK0) _ _ (K0.reads o0); have Hz0 := zi hz09; have Ho0 := zi ho09; clear hz09 ho09; have HOo0 := zi o0; obtain ⟨w1_0, w1_1a, w1_1n, w1_1c, rfl⟩ := (zg ShK1) _ _ (K1.reads o1); have HOo1 := zi o1; obtain ⟨w2_a, w2_n, w2_c, rfl⟩ := (zg ShK2) _ _ (K2.reads o2); have HOo2 := zi o2; have HDd01 := zi a01; have HDd02 := zi a02; have HDd12 := zi a12; (try replace HM0 := f9.hk HM0); (try replace HB0 : Hid (w4.heap.size ≤ b0 ∧ b0 < Wc.heap.size) := zi (by have h1 := zg HB0; have h2 := f9.size; omega)); (try replace HM1 := f9.hk HM1); (try replace HB1 : Hid (w4.heap.size ≤ b1 ∧ b1 < Wc.heap.size) := zi (by have h1 := zg HB1; have h2 := f9.size; omega)); clear HZ9 o0 o1 o2 a01 a02 a12; replace G := Hid.ht G f9; clear f9 hHeld; refine hK.out _ _ ⟨(zg G).kept (zg HB_p0), (zg G).kept (zg HB_p1)⟩ (fun hHeld => ?_); clear hK K; clear tC; have tC : Tk 3 := rfl; refine tk 5 ?_ rfl (by kernel_rfl) (fun _ _ _ h => h) (by rfl) ?_ (by assumption) ?_; rotate_left; (focus (intro w' hSw; go_simp <;> with_reducible rfl)); simp only [Act.put, q9]; refine tk 6 ?_ rfl (by kernel_rfl) (fun _ _ _ h => h) (by rfl) ?_ (by assumption) ?_; rotate_left; (focus (intro w' hSw; go_simp <;> with_reducible rfl)); simp only [Act.put, q9]; refine tk 7 ?_ rfl (by kernel_rfl) (fun _ _ _ h => h) (by rfl) ?_ (by assumption) ?_; rotate_left; (focus (intro w' hSw; go_simp <;> with_reducible rfl)); simp only [Act.put, q9]; refine tk 8 ?_ rfl (by kernel_rfl) (fun _ _ _ h => h) (by rfl) ?_ (by assumption) ?_; rotate_left; (focus (intro w' hSw; go_simp <;> with_reducible rfl)); simp only [Act.put, q9]; refine tk 9 ?_ rfl (by kernel_rfl) (fun _ _ _ h => h) (by rfl) ?_ (by assumption) ?_; rotate_left; (focus (intro w' hSw; go_simp <;> with_reducible rfl)); simp only [Act.put, q9])
   | (have _t : Tk 10 := tE; clear _t tE; have n9 := zn Wc (.cells zS7 40); have f9 := (Ext.refl Wc).alloc (.cells zS7 40); have l9 := (zg G).size; obtain ⟨b0, hb9⟩ : ∃ b, b = Wc.heap.size := ⟨_, rfl⟩; (try have HQ0 : Hid (∀ g, S0 g ∨ S1 g ∨ S2 g → g ≠ b0) := zi (fun g9 h9 => by have h1 := (zg HPP) g9 h9; omega)); (try have HN01 : Hid (b0 ≠ b1) := zi (by have h3 := zg HB1; omega)); rw [← hb9] at n9 l9 ⊢; clear hb9; generalize Wc.alloc (.cells zS7 40) = Wc at n9 f9 ⊢; have HB0 : Hid (w4.heap.size ≤ b0 ∧ b0 < Wc.heap.size) := zi ⟨l9, zt n9⟩; (try replace HM1 := f9.hk HM1); (try replace HB1 : Hid (w4.heap.size ≤ b1 ∧ b1 < Wc.heap.size) := zi (by have h1 := zg HB1; have h2 := f9.size; omega)); (try replace HR_t0 := zi (X0.rext (zg HR_t0) f9)); (try replace HR_t1 := zi (X1.rext (zg HR_t1) f9)); (try replace HPP : Hid (∀ g, S0 g ∨ S1 g ∨ S2 g → w4.heap.size ≤ g ∧ g < Wc.heap.size) := zi (fun g9 h9 => by have h1 := (zg HPP) g9 h9; have h2 := f9.size; omega)); (try replace HOo0 := zi (K0.oext (zg HOo0) f9)); (try replace HOo1 := zi (K1.oext (zg HOo1) f9)); (try replace HOo2 := zi (K2.oext (zg HOo2) f9)); have HM0 := zi n9; clear n9 l9; replace G := Hid.ht G f9; clear f9 hHeld; refine hK.out _ _ ⟨(zg G).kept (zg HB_p0), (zg G).kept (zg HB_p1)⟩ (fun hHeld => ?_); clear hK K)
   | (have _t : Tk 11 := tE; clear _t tE; have n9 := zn Wc (.cells zH2 41); have f9 := (Ext.refl Wc).alloc (.cells zH2 41); have l9 := (zg G).size; obtain ⟨b1, hb9⟩ : ∃ b, b = Wc.heap.size := ⟨_, rfl⟩; (try have HQ1 : Hid (∀ g, S0 g ∨ S1 g ∨ S2 g → g ≠ b1) := zi (fun g9 h9 => by have h1 := (zg HPP) g9 h9; omega)); (try have HN01 : Hid (b0 ≠ b1) := zi (by have h3 := zg HB0; omega)); rw [← hb9] at n9 l9 ⊢; clear hb9; generalize Wc.alloc (.cells zH2 41) = Wc at n9 f9 ⊢; have HB1 : Hid (w4.heap.size ≤ b1 ∧ b1 < Wc.heap.size) := zi ⟨l9, zt n9⟩; (try replace HM0 := f9.hk HM0); (try replace HB0 : Hid (w4.heap.size ≤ b0 ∧ b0 < Wc.heap.size) := zi (by have h1 := zg HB0; have h2 := f9.size; omega)); (try replace HR_t0 := zi (X0.rext (zg HR_t0) f9)); (try replace HR_t1 := zi (X1.rext (zg HR_t1) f9)); (try replace HPP : Hid (∀ g, S0 g ∨ S1 g ∨ S2 g → w4.heap.size ≤ g ∧ g < Wc.heap.size) := zi (fun g9 h9 => by have h1 := (zg HPP) g9 h9; have h2 := f9.size; omega)); (try replace HOo0 := zi (K0.oext (zg HOo0) f9)); (try replace HOo1 := zi (K1.oext (zg HOo1) f9)); (try replace HOo2 := zi (K2.oext (zg HOo2) f9)); have HM1 := zi n9; clear n9 l9; replace G := Hid.ht G f9; clear f9 hHeld; refine hK.out _ _ ⟨(zg G).kept (zg HB_p0), (zg G).kept (zg HB_p1)⟩ (fun hHeld => ?_); clear hK K)
  ) <;> (first
   | (have _t : Tk 0 := tC; have _m := And.intro HM0 HM1; clear _m; clear _t tC; revert HN01; revert HB1; revert HM1; revert HB0; revert HM0; revert hHeld; revert G; revert b1; revert b0; revert Wc; have tS : Tk 4 := rfl; revert tS; exact k011)
   | (have _t : Tk 0 := tC; have _m := HM0; clear _m; clear _t tC; revert HB0; revert HM0; revert hHeld; revert G; revert b0; revert Wc; have tS : Tk 1 := rfl; revert tS; exact k010)
   | (have _t : Tk 0 := tC; have _m := HM1; clear _m; clear _t tC; revert HB1; revert HM1; revert hHeld; revert G; revert b1; revert Wc; have tS : Tk 2 := rfl; revert tS; exact k001)
   | (have _t : Tk 1 := tC; have _m := And.intro HM0 HM1; clear _m; clear _t tC; revert HR_t0; revert HN01; revert HB1; revert HM1; revert HB0; revert HM0; revert hHeld; revert G; revert t0_cs; revert b1; revert b0; revert Wc; have tS : Tk 8 := rfl; revert tS; exact k111)
   | (have _t : Tk 1 := tC; have _m := HM0; clear _m; clear _t tC; revert HR_t0; revert HB0; revert HM0; revert hHeld; revert G; revert t0_cs; revert b0; revert Wc; have tS : Tk 5 := rfl; revert tS; exact k110)
   | (have _t : Tk 1 := tC; have _m := HM1; clear _m; clear _t tC; revert HR_t0; revert HB1; revert HM1; revert hHeld; revert G; revert t0_cs; revert b1; revert Wc; have tS : Tk 6 := rfl; revert tS; exact k101)
   | (have _t : Tk 1 := tC; clear _t tC; revert HR_t0; revert hHeld; revert G; revert t0_cs; revert Wc; have tS : Tk 3 := rfl; revert tS; exact k100)
   | (have _t : Tk 2 := tC; have _m := And.intro HM0 HM1; clear _m; clear _t tC; revert HR_t1; revert HR_t0; revert HN01; revert HB1; revert HM1; revert HB0; revert HM0; revert hHeld; revert G; revert t1_1c; revert t1_1n; revert t1_1a; revert t1_0; revert t0_cs; revert b1; revert b0; revert Wc; have tS : Tk 12 := rfl; revert tS; exact k211)
   | (have _t : Tk 2 := tC; have _m := HM0; clear _m; clear _t tC; revert HR_t1; revert HR_t0; revert HB0; revert HM0; revert hHeld; revert G; revert t1_1c; revert t1_1n; revert t1_1a; revert t1_0; revert t0_cs; revert b0; revert Wc; have tS : Tk 9 := rfl; revert tS; exact k210)
   | (have _t : Tk 2 := tC; have _m := HM1; clear _m; clear _t tC; revert HR_t1; revert HR_t0; revert HB1; revert HM1; revert hHeld; revert G; revert t1_1c; revert t1_1n; revert t1_1a; revert t1_0; revert t0_cs; revert b1; revert Wc; have tS : Tk 10 := rfl; revert tS; exact k201)
   | (have _t : Tk 2 := tC; clear _t tC; revert HR_t1; revert HR_t0; revert hHeld; revert G; revert t1_1c; revert t1_1n; revert t1_1a; revert t1_0; revert t0_cs; revert Wc; have tS : Tk 7 := rfl; revert tS; exact k200)
   | (have _t : Tk 3 := tC; have _m := And.intro HM0 HM1; clear _m; clear _t tC; (try clear HR_t0); (try clear HR_t1); revert HQ1; revert HQ0; revert HDd12; revert HDd02; revert HDd01; revert Ho0; revert Hz0; revert HOo2; revert HOo1; revert HOo0; revert HPP; revert HN01; revert HB1; revert HM1; revert HB0; revert HM0; revert hHeld; revert G; revert B9; revert S2; revert S1; revert S0; revert w2_c; revert w2_n; revert w2_a; revert w1_1c; revert w1_1n; revert w1_1a; revert w1_0; revert w0_cs; revert t1_1c; revert t1_1n; revert t1_1a; revert t1_0; revert t0_cs; revert b1; revert b0; revert Wc; have tS : Tk 15 := rfl; revert tS; exact k311)
   | (have _t : Tk 3 := tC; have _m := HM0; clear _m; clear _t tC; (try clear HR_t0); (try clear HR_t1); revert HQ0; revert HDd12; revert HDd02; revert HDd01; revert Ho0; revert Hz0; revert HOo2; revert HOo1; revert HOo0; revert HPP; revert HB0; revert HM0; revert hHeld; revert G; revert B9; revert S2; revert S1; revert S0; revert w2_c; revert w2_n; revert w2_a; revert w1_1c; revert w1_1n; revert w1_1a; revert w1_0; revert w0_cs; revert t1_1c; revert t1_1n; revert t1_1a; revert t1_0; revert t0_cs; revert b0; revert Wc; have tS : Tk 13 := rfl; revert tS; exact k310)
   | (have _t : Tk 3 := tC; have _m := HM1; clear _m; clear _t tC; (try clear HR_t0); (try clear HR_t1); revert HQ1; revert HDd12; revert HDd02; revert HDd01; revert Ho0; revert Hz0; revert HOo2; revert HOo1; revert HOo0; revert HPP; revert HB1; revert HM1; revert hHeld; revert G; revert B9; revert S2; revert S1; revert S0; revert w2_c; revert w2_n; revert w2_a; revert w1_1c; revert w1_1n; revert w1_1a; revert w1_0; revert w0_cs; revert t1_1c; revert t1_1n; revert t1_1a; revert t1_0; revert t0_cs; revert b1; revert Wc; have tS : Tk 14 := rfl; revert tS; exact k301)
   | (have _t : Tk 3 := tC; clear _t tC; (try clear HR_t0); (try clear HR_t1); revert HDd12; revert HDd02; revert HDd01; revert Ho0; revert Hz0; revert HOo2; revert HOo1; revert HOo0; revert HPP; revert hHeld; revert G; revert B9; revert S2; revert S1; revert S0; revert w2_c; revert w2_n; revert w2_a; revert w1_1c; revert w1_1n; revert w1_1a; revert w1_0; revert w0_cs; revert t1_1c; revert t1_1n; revert t1_1a; revert t1_0; revert t0_cs; revert Wc; have tS : Tk 11 := rfl; revert tS; exact k300)
  )))
  intro tS Wc b0 b1 t0_cs t1_0 t1_1a t1_1n t1_1c w0_cs w1_0 w1_1a w1_1n w1_1c w2_a w2_n w2_c S0 S1 S2 B9 G hHeld HM0 HB0 HM1 HB1 HN01 HPP HOo0 HOo1 HOo2 Hz0 Ho0 HDd01 HDd02 HDd12 HQ0 HQ1; clear tS
  refine rdy 12 (by kernel_rfl) rfl (fun K hK => ?_)
  refine zad 40 _ _ rfl rfl b0 rfl _ _ w0_cs rfl (zg HM0) (by rw [zg Hz0]; exact zq) (by rw [zg Hz0]; rfl) (zg Ho0) ?_
  intro Wc hb9 hf9
  replace HM1 := zi (hf9.kept (zg HM1) (fun e9 => zg HN01 e9.symm))
  replace HM0 := zi hb9
  replace HOo0 := zi (K0.ofr (zg HOo0) hf9 (fun g9 h9 e9 => (zg HQ0) g9 ((.inl h9)) e9))
  replace HOo1 := zi (K1.ofr (zg HOo1) hf9 (fun g9 h9 e9 => (zg HQ0) g9 (.inr ((.inl h9))) e9))
  replace HOo2 := zi (K2.ofr (zg HOo2) hf9 (fun g9 h9 e9 => (zg HQ0) g9 (.inr (.inr (h9))) e9))
  replace G := zi (hf9.ext (zg G) (fun q9 h9 => by have h1 := zg HB0; omega))
  replace HPP : Hid (∀ g, S0 g ∨ S1 g ∨ S2 g → w4.heap.size ≤ g ∧ g < Wc.heap.size) := zi (fun g9 h9 => by have h1 := (zg HPP) g9 h9; have h2 := hf9.size; omega)
  clear hb9 hf9 hHeld
  refine hK.out _ _ ⟨(zg G).kept (zg HB_p0), (zg G).kept (zg HB_p1)⟩ (fun hHeld => ?_)
  clear hK K
  refine rdy 13 (by kernel_rfl) rfl (fun K hK => ?_)
  refine zad 41 _ _ rfl rfl b1 rfl _ _ #[.int .i64 w1_0, .slice w1_1a w1_1n w1_1c] rfl (zg HM1) (by kernel_rfl) rfl (by simp [Value.oneCell']) ?_
  intro Wc hb9 hf9
  replace HM0 := zi (hf9.kept (zg HM0) (fun e9 => zg HN01 e9))
  replace HM1 := zi hb9
  replace HOo0 := zi (K0.ofr (zg HOo0) hf9 (fun g9 h9 e9 => (zg HQ1) g9 ((.inl h9)) e9))
  replace HOo1 := zi (K1.ofr (zg HOo1) hf9 (fun g9 h9 e9 => (zg HQ1) g9 (.inr ((.inl h9))) e9))
  replace HOo2 := zi (K2.ofr (zg HOo2) hf9 (fun g9 h9 e9 => (zg HQ1) g9 (.inr (.inr (h9))) e9))
  replace G := zi (hf9.ext (zg G) (fun q9 h9 => by have h1 := zg HB1; omega))
  replace HPP : Hid (∀ g, S0 g ∨ S1 g ∨ S2 g → w4.heap.size ≤ g ∧ g < Wc.heap.size) := zi (fun g9 h9 => by have h1 := (zg HPP) g9 h9; have h2 := hf9.size; omega)
  clear hb9 hf9 hHeld
  refine hK.out _ _ ⟨(zg G).kept (zg HB_p0), (zg G).kept (zg HB_p1)⟩ (fun hHeld => ?_)
  clear hK K
  refine tk 14 ?_ rfl (by kernel_rfl) (fun _ _ _ h => h) (by rfl) ?_ (by assumption) ?_
  rotate_left
  ·intro w' hSw; go_simp <;> with_reducible rfl
  simp only [Act.put, q9]
  refine tk 15 ?_ rfl (by kernel_rfl) (fun _ _ _ h => h) (by rfl) ?_ (by assumption) ?_
  rotate_left
  ·intro w' hSw; go_simp <;> with_reducible rfl
  simp only [Act.put, q9]
  refine wpAnyH_done (by kernel_rfl) ?_ _
  go_wp2
  go_meet
  exact ⟨_, _, _, _, _, _, _, _, _, _, _, _, _, _, _, _, rfl, rfl, rfl, rfl, HM0, zi (zg HB0).1, HM1, zi (zg HB1).1, HOo0, zi (fun g9 h9 => ⟨((zg HPP) g9 ((.inl h9))).1, ((zg HPP) g9 ((.inl h9))).2, (zg HQ0) g9 ((.inl h9)), (zg HQ1) g9 ((.inl h9))⟩), Hz0, Ho0, HOo1, zi (fun g9 h9 => ⟨((zg HPP) g9 (.inr ((.inl h9)))).1, ((zg HPP) g9 (.inr ((.inl h9)))).2, (zg HQ0) g9 (.inr ((.inl h9))), (zg HQ1) g9 (.inr ((.inl h9)))⟩), HOo2, zi (fun g9 h9 => ⟨((zg HPP) g9 (.inr (.inr (h9)))).1, ((zg HPP) g9 (.inr (.inr (h9)))).2, (zg HQ0) g9 (.inr (.inr (h9))), (zg HQ1) g9 (.inr (.inr (h9)))⟩), HDd01, HDd02, HDd12, HN01, G⟩
 case rest =>
 rename World => w7
 obtain ⟨bw0, bw1, w0_cs, w1_0, w1_1a, w1_1n, w1_1c, w2_a, w2_n, w2_c, Bw0, Sw0, Bw1, Sw1, Bw2, Sw2, rfl, rfl, rfl, rfl, HB_w0, HG_w0, HB_w1, HG_w1, HO_w0, HL_w0, Hz_w0_cs, Ho_w0_cs, HO_w1, HL_w1, HO_w2, HL_w2, HD_w0_w1, HD_w0_w2, HD_w1_w2, HN_0_1, HE9⟩ := hcut
 have hz_w0 := zi (zt (zg HB_w0))
 have hz_w1 := zi (zt (zg HB_w1))
 have hs8 := zi ((zg HE9)).size
 replace E := E.trans (zg HE9)
 replace HB_p0 := zi (((zg HE9)).kept (zg HB_p0))
 replace HB_p1 := zi (((zg HE9)).kept (zg HB_p1))
 clear HE9
 have HR_w0 := zi (K0.reads (zg HO_w0))
 clear HO_w0
 have HR_w1 := zi (K1.reads (zg HO_w1))
 clear HO_w1
 have HR_w2 := zi (K2.reads (zg HO_w2))
 clear HO_w2
 have HEw := zi (Ext.refl w7)
 have c_p1_0 := zk (zg HB_p1) 0 _ rfl
 have c_p1_1 := zk (zg HB_p1) 1 _ rfl
 go_wp2_with (refine zm rfl 30 _ rfl (w.heap.size) rfl _ _ _ _ (zg HB_p0) Tryz.underlying30 rfl (by rw [zg Hz_p0_cs]; exact zaX) ?_)
 clear c_p1_0 c_p1_1
 refine ((zg HTo0) _ E).mono ?_
 rintro e w9 ⟨ux0, Sx0, rfl, ox0, F10⟩
 have HL_x0 : Hid (∀ g, Sx0 g → w7.heap.size ≤ g ∧ g < w9.heap.size) := zi (X0.lt ox0)
 have hs11 := zi (F10).size
 replace E := E.trans F10
 replace HB_p0 := zi ((F10).kept (zg HB_p0))
 replace HB_p1 := zi ((F10).kept (zg HB_p1))
 replace HB_w0 := zi ((F10).kept (zg HB_w0))
 replace HB_w1 := zi ((F10).kept (zg HB_w1))
 replace HEw := Hid.ht HEw F10
 obtain ⟨x0_cs, rfl, hz9, ho9⟩ := (zg ShX0) _ _ (X0.reads ox0)
 have Hz_x0_cs := zi hz9
 have Ho_x0_cs := zi ho9
 clear hz9 ho9
 have HO_x0 := zi ox0
 clear ox0
 go_wp2_with (first | (refine zy rfl 40 _ _ rfl rfl (w9.heap.size) rfl _ _ _ rfl (zn w9 _) (by rw [zg Hz_x0_cs]; exact zq) (by rw [zg Hz_x0_cs]; rfl) (zg Ho_x0_cs) ?_; intro V12 hb9 hf9; have FV12 := zi (hf9.ext ((Ext.refl w9).alloc _) (fun q9 h9 => by omega)); have HB_x0 := zi hb9; clear hb9 hf9) | (refine zm rfl 30 _ rfl (w.heap.size) rfl _ _ _ _ ((zg FV12).kept (zg HB_p0)) Tryz.underlying30 rfl (by rw [zg Hz_p0_cs]; exact zaX) ?_) | (refine zm rfl 32 _ rfl (w.heap.size + 1) rfl _ _ _ _ ((zg FV12).kept (zg HB_p1)) Tryz.underlying32 rfl (by kernel_rfl) ?_))
 have hzV12 := zi (zt (zg HB_x0))
 have hs13 := zi ((zg FV12)).size
 replace E := E.trans (zg FV12)
 replace HB_p0 := zi (((zg FV12)).kept (zg HB_p0))
 replace HB_p1 := zi (((zg FV12)).kept (zg HB_p1))
 replace HB_w0 := zi (((zg FV12)).kept (zg HB_w0))
 replace HB_w1 := zi (((zg FV12)).kept (zg HB_w1))
 replace HO_x0 := zi (X0.oext (zg HO_x0) (zg FV12))
 replace HEw := zi ((zg HEw).trans (zg FV12))
 refine ((zg HTo1) _ E).mono ?_
 rintro e w14 ⟨ux1, Sx1, rfl, ox1, F15⟩
 have HL_x1 : Hid (∀ g, Sx1 g → V12.heap.size ≤ g ∧ g < w14.heap.size) := zi (X1.lt ox1)
 have hs16 := zi (F15).size
 replace E := E.trans F15
 replace HB_p0 := zi ((F15).kept (zg HB_p0))
 replace HB_p1 := zi ((F15).kept (zg HB_p1))
 replace HB_w0 := zi ((F15).kept (zg HB_w0))
 replace HB_w1 := zi ((F15).kept (zg HB_w1))
 replace HB_x0 := zi ((F15).kept (zg HB_x0))
 replace HO_x0 := zi (X0.oext (zg HO_x0) F15)
 replace HEw := Hid.ht HEw F15
 obtain ⟨x1_0, x1_1a, x1_1n, x1_1c, rfl⟩ := (zg ShX1) _ _ (X1.reads ox1)
 have HO_x1 := zi ox1
 clear ox1
 go_wp2_with (refine zm rfl 40 _ rfl (w9.heap.size) rfl _ _ _ _ (((Ext.refl _).alloc _).kept (zg HB_x0)) Tryz.underlying40 rfl (by rw [zg Hz_x0_cs]; exact zq) ?_)
 obtain ⟨V17, hV17⟩ : ∃ V17, V17 = w14.alloc (.cells #[.int .i64 x1_0, .slice x1_1a x1_1n x1_1c] 41) := ⟨_, rfl⟩
 rw [← hV17]
 have FV17 : Ext w14 V17 := by rw [hV17]; exact (Ext.refl w14).alloc _
 have HB_x1 : Hid (V17.heap[w14.heap.size]? = some (.cells #[.int .i64 x1_0, .slice x1_1a x1_1n x1_1c] 41 (0, 0))) := zi (by rw [hV17]; exact zn w14 _)
 have hzV17 := zi (zt (zg HB_x1))
 clear hV17
 have hs18 := zi (FV17).size
 replace E := E.trans FV17
 replace HB_p0 := zi ((FV17).kept (zg HB_p0))
 replace HB_p1 := zi ((FV17).kept (zg HB_p1))
 replace HB_w0 := zi ((FV17).kept (zg HB_w0))
 replace HB_w1 := zi ((FV17).kept (zg HB_w1))
 replace HB_x0 := zi ((FV17).kept (zg HB_x0))
 replace HO_x0 := zi (X0.oext (zg HO_x0) FV17)
 replace HO_x1 := zi (X1.oext (zg HO_x1) FV17)
 replace HEw := Hid.ht HEw FV17
 refine ((zg HI) _ _ _ E (X0.reads (zg HO_x0)) (X1.reads (zg HO_x1))).mono ?_
 rintro e w19 ⟨ug0, Sg0, ug1, Sg1, ug2, Sg2, rfl, og0, og1, og2, ag01, ag02, ag12, F20⟩
 have HL_g0 : Hid (∀ g, Sg0 g → V17.heap.size ≤ g ∧ g < w19.heap.size) := zi (K0.lt og0)
 have HL_g1 : Hid (∀ g, Sg1 g → V17.heap.size ≤ g ∧ g < w19.heap.size) := zi (K1.lt og1)
 have HL_g2 : Hid (∀ g, Sg2 g → V17.heap.size ≤ g ∧ g < w19.heap.size) := zi (K2.lt og2)
 have HD_g0_g1 := zi ag01
 clear ag01
 have HD_g0_g2 := zi ag02
 clear ag02
 have HD_g1_g2 := zi ag12
 clear ag12
 have hs21 := zi (F20).size
 replace E := E.trans F20
 replace HB_p0 := zi ((F20).kept (zg HB_p0))
 replace HB_p1 := zi ((F20).kept (zg HB_p1))
 replace HB_w0 := zi ((F20).kept (zg HB_w0))
 replace HB_w1 := zi ((F20).kept (zg HB_w1))
 replace HB_x0 := zi ((F20).kept (zg HB_x0))
 replace HB_x1 := zi ((F20).kept (zg HB_x1))
 replace HO_x0 := zi (X0.oext (zg HO_x0) F20)
 replace HO_x1 := zi (X1.oext (zg HO_x1) F20)
 replace HEw := Hid.ht HEw F20
 obtain ⟨g0_cs, rfl, hz9, ho9⟩ := (zg ShK0) _ _ (K0.reads og0)
 have Hz_g0_cs := zi hz9
 have Ho_g0_cs := zi ho9
 clear hz9 ho9
 have HO_g0 := zi og0
 clear og0
 obtain ⟨g1_0, g1_1a, g1_1n, g1_1c, rfl⟩ := (zg ShK1) _ _ (K1.reads og1)
 have HO_g1 := zi og1
 clear og1
 obtain ⟨g2_a, g2_n, g2_c, rfl⟩ := (zg ShK2) _ _ (K2.reads og2)
 have HO_g2 := zi og2
 clear og2
 go_wp2_with (first | (refine zy rfl 40 _ _ rfl rfl (w19.heap.size) rfl _ _ _ rfl (((Ext.refl _).alloc _).kept (zn w19 _)) (by rw [zg Hz_g0_cs]; exact zq) (by rw [zg Hz_g0_cs]; rfl) (zg Ho_g0_cs) ?_; intro V22z hb9 hf9; have HB_g0 := zi hb9; have FV22z := zi hf9; clear hb9 hf9) | (refine zy rfl 41 _ _ rfl rfl (w19.heap.size + 1) rfl _ _ #[.int .i64 g1_0, .slice g1_1a g1_1n g1_1c] rfl ((zg FV22z).kept (new2 w19 (.cells zS7 40) _) (by omega)) (by kernel_rfl) rfl (by simp [Value.oneCell']) ?_; intro V22 hb9 hf9; have FV22 := zi (hf9.ext ((zg FV22z).ext (((Ext.refl w19).alloc _).alloc _) (fun q9 h9 => by omega)) (fun q9 h9 => by omega)); replace HB_g0 := zi (hf9.kept (zg HB_g0) (by omega)); have HB_g1 := zi hb9; clear hb9 hf9) | (refine zm rfl 40 _ rfl (w19.heap.size) rfl _ _ _ _ (zg HB_g0) Tryz.underlying40 rfl (by rw [zg Hz_g0_cs]; exact zq) ?_) | (refine zm rfl 40 _ rfl (bw0) rfl _ _ _ _ ((zg FV22).kept (zg HB_w0)) Tryz.underlying40 rfl (by rw [zg Hz_w0_cs]; exact zq) ?_) | (refine zm rfl 41 _ rfl (w19.heap.size + 1) rfl _ _ _ _ (zg HB_g1) Tryz.underlying41 rfl (by kernel_rfl) ?_) | (refine zm rfl 41 _ rfl (bw1) rfl _ _ _ _ ((zg FV22).kept (zg HB_w1)) Tryz.underlying41 rfl (by kernel_rfl) ?_))
 have hzV22_g0 := zi (zt (zg HB_g0))
 have hzV22_g1 := zi (zt (zg HB_g1))
 have hs23 := zi ((zg FV22)).size
 replace E := E.trans (zg FV22)
 replace HB_p0 := zi (((zg FV22)).kept (zg HB_p0))
 replace HB_p1 := zi (((zg FV22)).kept (zg HB_p1))
 replace HB_w0 := zi (((zg FV22)).kept (zg HB_w0))
 replace HB_w1 := zi (((zg FV22)).kept (zg HB_w1))
 replace HB_x0 := zi (((zg FV22)).kept (zg HB_x0))
 replace HB_x1 := zi (((zg FV22)).kept (zg HB_x1))
 replace HO_x0 := zi (X0.oext (zg HO_x0) (zg FV22))
 replace HO_x1 := zi (X1.oext (zg HO_x1) (zg FV22))
 replace HO_g0 := zi (K0.oext (zg HO_g0) (zg FV22))
 replace HO_g1 := zi (K1.oext (zg HO_g1) (zg FV22))
 replace HO_g2 := zi (K2.oext (zg HO_g2) (zg FV22))
 replace HEw := zi ((zg HEw).trans (zg FV22))
 refine ((zg HEqK0) _ _ _ (K0.reads (zg HO_g0)) (K0.rext (zg HR_w0) (zg HEw))).mono ?_
 rintro e w24 ⟨rfl, F25⟩
 have hs26 := zi (F25).size
 replace E := E.trans F25
 replace HB_p0 := zi ((F25).kept (zg HB_p0))
 replace HB_p1 := zi ((F25).kept (zg HB_p1))
 replace HB_w0 := zi ((F25).kept (zg HB_w0))
 replace HB_w1 := zi ((F25).kept (zg HB_w1))
 replace HB_x0 := zi ((F25).kept (zg HB_x0))
 replace HB_x1 := zi ((F25).kept (zg HB_x1))
 replace HB_g0 := zi ((F25).kept (zg HB_g0))
 replace HB_g1 := zi ((F25).kept (zg HB_g1))
 replace HO_x0 := zi (X0.oext (zg HO_x0) F25)
 replace HO_x1 := zi (X1.oext (zg HO_x1) F25)
 replace HO_g0 := zi (K0.oext (zg HO_g0) F25)
 replace HO_g1 := zi (K1.oext (zg HO_g1) F25)
 replace HO_g2 := zi (K2.oext (zg HO_g2) F25)
 replace HEw := Hid.ht HEw F25
 have c_g1_0 := zk (zg HB_g1) 0 _ rfl
 have c_g1_1 := zk (zg HB_g1) 1 _ rfl
 have c_w1_0 := zk (zg HB_w1) 0 _ rfl
 have c_w1_1 := zk (zg HB_w1) 1 _ rfl
 go_wp2_with (first | (refine zm rfl 40 _ rfl (w19.heap.size) rfl _ _ _ _ (zg HB_g0) Tryz.underlying40 rfl (by rw [zg Hz_g0_cs]; exact zq) ?_) | (refine zm rfl 40 _ rfl (bw0) rfl _ _ _ _ (zg HB_w0) Tryz.underlying40 rfl (by rw [zg Hz_w0_cs]; exact zq) ?_))
 clear c_g1_0 c_g1_1 c_w1_0 c_w1_1
 refine ((zg HEqK1) _ _ _ (K1.reads (zg HO_g1)) (K1.rext (zg HR_w1) (zg HEw))).mono ?_
 rintro e w27 ⟨rfl, F28⟩
 have hs29 := zi (F28).size
 replace E := E.trans F28
 replace HB_p0 := zi ((F28).kept (zg HB_p0))
 replace HB_p1 := zi ((F28).kept (zg HB_p1))
 replace HB_w0 := zi ((F28).kept (zg HB_w0))
 replace HB_w1 := zi ((F28).kept (zg HB_w1))
 replace HB_x0 := zi ((F28).kept (zg HB_x0))
 replace HB_x1 := zi ((F28).kept (zg HB_x1))
 replace HB_g0 := zi ((F28).kept (zg HB_g0))
 replace HB_g1 := zi ((F28).kept (zg HB_g1))
 replace HO_x0 := zi (X0.oext (zg HO_x0) F28)
 replace HO_x1 := zi (X1.oext (zg HO_x1) F28)
 replace HO_g0 := zi (K0.oext (zg HO_g0) F28)
 replace HO_g1 := zi (K1.oext (zg HO_g1) F28)
 replace HO_g2 := zi (K2.oext (zg HO_g2) F28)
 replace HEw := Hid.ht HEw F28
 have c_g1_0 := zk (zg HB_g1) 0 _ rfl
 have c_g1_1 := zk (zg HB_g1) 1 _ rfl
 have c_w1_0 := zk (zg HB_w1) 0 _ rfl
 have c_w1_1 := zk (zg HB_w1) 1 _ rfl
 go_wp2_with (first | (refine zm rfl 40 _ rfl (w19.heap.size) rfl _ _ _ _ (zg HB_g0) Tryz.underlying40 rfl (by rw [zg Hz_g0_cs]; exact zq) ?_) | (refine zm rfl 40 _ rfl (bw0) rfl _ _ _ _ (zg HB_w0) Tryz.underlying40 rfl (by rw [zg Hz_w0_cs]; exact zq) ?_))
 clear c_g1_0 c_g1_1 c_w1_0 c_w1_1
 refine ((zg HEqK2) _ _ _ (K2.reads (zg HO_g2)) (K2.rext (zg HR_w2) (zg HEw))).mono ?_
 rintro e w30 ⟨rfl, F31⟩
 have hs32 := zi (F31).size
 replace E := E.trans F31
 replace HB_p0 := zi ((F31).kept (zg HB_p0))
 replace HB_p1 := zi ((F31).kept (zg HB_p1))
 replace HB_w0 := zi ((F31).kept (zg HB_w0))
 replace HB_w1 := zi ((F31).kept (zg HB_w1))
 replace HB_x0 := zi ((F31).kept (zg HB_x0))
 replace HB_x1 := zi ((F31).kept (zg HB_x1))
 replace HB_g0 := zi ((F31).kept (zg HB_g0))
 replace HB_g1 := zi ((F31).kept (zg HB_g1))
 replace HO_x0 := zi (X0.oext (zg HO_x0) F31)
 replace HO_x1 := zi (X1.oext (zg HO_x1) F31)
 replace HO_g0 := zi (K0.oext (zg HO_g0) F31)
 replace HO_g1 := zi (K1.oext (zg HO_g1) F31)
 replace HO_g2 := zi (K2.oext (zg HO_g2) F31)
 replace HEw := Hid.ht HEw F31
 go_wp2
 have HTt := zi (fun U (hU : Ext w30 U) => (zg HTo0) U (E.trans hU))
 refine wp_region_held_drew (S := fun W => W.heap[w9.heap.size]? = some (.cells x0_cs 40 (0, 0)) ∧ W.heap[w.heap.size]? = some (.cells p0_cs 30 (0, 0))) (by kernel_rfl) ⟨zg HB_x0, zg HB_p0⟩ (fun hHeld => ?_)
 refine tk 0 (.agg x0_cs) rfl (by kernel_rfl) (fun _ _ _ h => h) (by rfl) ?_ (by assumption) ?_
 ·intro w' hSw; exact zae 40 _ rfl (w9.heap.size) rfl _ _ _ _ hSw.1 Tryz.underlying40 rfl (by rw [zg Hz_x0_cs]; exact zq)
 simp only [Act.put, q9]
 refine tk 1 (.agg p0_cs) rfl (by kernel_rfl) (fun _ _ _ h => h) (by rfl) ?_ (by assumption) ?_
 ·intro w' hSw; exact zae 30 _ rfl (w.heap.size) rfl _ _ _ _ hSw.2 Tryz.underlying30 rfl (by rw [zg Hz_p0_cs]; exact zaX)
 simp only [Act.put, q9]
 refine rdy 2 (by kernel_rfl) rfl (fun K hK => ?_)
 go_simp
 go_wp2_with (go_at_call 8; refine ((zg HTt) _ (Ext.refl w30).drew).mono ?_; rintro e w33 ⟨uT, ST, rfl, oT, FT⟩; have he' := (Ext.refl w30).drew.trans FT; obtain ⟨z0, rfl, _, _⟩ := (zg ShX0) _ _ (X0.reads oT); have RT := zi (X0.reads oT); clear oT FT)
 refine hK.out _ _ ⟨he'.kept (zg HB_x0), he'.kept (zg HB_p0)⟩ (fun hHeld => ?_)
 clear hK K
 refine rdy 3 (by kernel_rfl) rfl (fun K hK => ?_)
 go_simp
 go_wp2_with (go_at_call 11; refine ((zg HEqX0) _ _ _ (X0.rext (X0.reads (zg HO_x0)) he') (zg RT)).mono ?_; rintro e w34 ⟨rfl, FE⟩; have he' := he'.trans FE; clear FE)
 refine hK.out _ _ ⟨he'.kept (zg HB_x0), he'.kept (zg HB_p0)⟩ (fun hHeld => ?_)
 clear hK K
 refine tk 4 ?_ rfl (by kernel_rfl) (fun _ _ _ h => h) (by rfl) ?_ (by assumption) ?_
 rotate_left
 ·intro w' hSw; go_simp <;> with_reducible rfl
 simp only [Act.put, q9]
 refine wpAnyH_done (by kernel_rfl) ?_ _
 clear HTt RT
 have F35 := he'
 clear he'
 have hs36 := zi (F35).size
 replace E := E.trans F35
 replace HB_p0 := zi ((F35).kept (zg HB_p0))
 replace HB_p1 := zi ((F35).kept (zg HB_p1))
 replace HB_w0 := zi ((F35).kept (zg HB_w0))
 replace HB_w1 := zi ((F35).kept (zg HB_w1))
 replace HB_x0 := zi ((F35).kept (zg HB_x0))
 replace HB_x1 := zi ((F35).kept (zg HB_x1))
 replace HB_g0 := zi ((F35).kept (zg HB_g0))
 replace HB_g1 := zi ((F35).kept (zg HB_g1))
 replace HO_x0 := zi (X0.oext (zg HO_x0) F35)
 replace HO_x1 := zi (X1.oext (zg HO_x1) F35)
 replace HO_g0 := zi (K0.oext (zg HO_g0) F35)
 replace HO_g1 := zi (K1.oext (zg HO_g1) F35)
 replace HO_g2 := zi (K2.oext (zg HO_g2) F35)
 replace HEw := Hid.ht HEw F35
 have c_x1_0 := zk (zg HB_x1) 0 _ rfl
 have c_x1_1 := zk (zg HB_x1) 1 _ rfl
 have c_p1_0 := zk (zg HB_p1) 0 _ rfl
 have c_p1_1 := zk (zg HB_p1) 1 _ rfl
 go_wp2
 have HTt := zi (fun U (hU : Ext w34 U) => (zg HTo1) U (E.trans hU))
 go_region_held3 (fun W => W.cell? ⟨w14.heap.size, 0, none⟩ = some (.int .i64 x1_0) ∧ W.cell? ⟨w14.heap.size, 1, none⟩ = some (.slice x1_1a x1_1n x1_1c) ∧ W.cell? ⟨w.heap.size + 1, 0, none⟩ = some (.int .i64 p1_0) ∧ W.cell? ⟨w.heap.size + 1, 1, none⟩ = some (.slice p1_1a p1_1n p1_1c)) (first | exact ⟨c_x1_0, c_x1_1, c_p1_0, c_p1_1⟩ | exact ⟨he'.cell c_x1_0, he'.cell c_x1_1, he'.cell c_p1_0, he'.cell c_p1_1⟩)
  (first
   | (go_at_call 9; refine ((zg HTt) _ (Ext.refl w34).drew).mono ?_; rintro e w37 ⟨uT, ST, rfl, oT, FT⟩; have he' := (Ext.refl w34).drew.trans FT; obtain ⟨yx0, yx1a, yx1n, yx1c, rfl⟩ := (zg ShX1) _ _ (X1.reads oT); have RT := zi (X1.reads oT); clear oT FT)
   | (go_at_call 12; refine ((zg HEqX1) _ _ _ (X1.rext (X1.reads (zg HO_x1)) he') (zg RT)).mono ?_; rintro e w38 ⟨rfl, FE⟩; have he' := he'.trans FE; clear FE))
 clear HTt RT c_x1_0 c_x1_1 c_p1_0 c_p1_1
 have F39 := he'
 clear he'
 have hs40 := zi (F39).size
 replace E := E.trans F39
 replace HB_p0 := zi ((F39).kept (zg HB_p0))
 replace HB_p1 := zi ((F39).kept (zg HB_p1))
 replace HB_w0 := zi ((F39).kept (zg HB_w0))
 replace HB_w1 := zi ((F39).kept (zg HB_w1))
 replace HB_x0 := zi ((F39).kept (zg HB_x0))
 replace HB_x1 := zi ((F39).kept (zg HB_x1))
 replace HB_g0 := zi ((F39).kept (zg HB_g0))
 replace HB_g1 := zi ((F39).kept (zg HB_g1))
 replace HO_x0 := zi (X0.oext (zg HO_x0) F39)
 replace HO_x1 := zi (X1.oext (zg HO_x1) F39)
 replace HO_g0 := zi (K0.oext (zg HO_g0) F39)
 replace HO_g1 := zi (K1.oext (zg HO_g1) F39)
 replace HO_g2 := zi (K2.oext (zg HO_g2) F39)
 replace HEw := Hid.ht HEw F39
 go_wp2_with (refine zm rfl 40 _ rfl (w9.heap.size) rfl _ _ _ _ (zg HB_x0) Tryz.underlying40 rfl (by rw [zg Hz_x0_cs]; exact zq) ?_)
 refine ((zg HMkX0) _ _ _ _ _ (zg HO_x0) (by omega) (by omega)).mono ?_
 rintro e w41 ⟨rfl, om, F42⟩
 have z0 := zg hzW0; have z1 := zg hs3; have z2 := zg hs6; have z3 := zg hz_w0; have z4 := zg HG_w0; have z5 := zg hz_w1; have z6 := zg HG_w1; have z7 := zg hs8; have z8 := zg hs11; have z9 := zg hzV12; have z10 := zg hs13; have z11 := zg hs16; have z12 := zg hzV17; have z13 := zg hs18; have z14 := zg hs21; have z15 := zg hzV22_g0; have z16 := zg hzV22_g1; have z17 := zg hs23; have z18 := zg hs26; have z19 := zg hs29; have z20 := zg hs32; have z21 := zg hs36; have z22 := zg hs40
 replace E := F42.ext E (fun _ h9 => by have b9 := (zg HL_x0) _ h9; omega)
 replace HEw := zi (F42.ext (zg HEw) (fun _ h9 => by have b9 := (zg HL_x0) _ h9; omega))
 replace HB_p0 := zi (F42.kept (zg HB_p0) (fun h9 => by have b9 := (zg HL_x0) _ h9; omega))
 replace HB_p1 := zi (F42.kept (zg HB_p1) (fun h9 => by have b9 := (zg HL_x0) _ h9; omega))
 replace HB_w0 := zi (F42.kept (zg HB_w0) (fun h9 => by have b9 := (zg HL_x0) _ h9; omega))
 replace HB_w1 := zi (F42.kept (zg HB_w1) (fun h9 => by have b9 := (zg HL_x0) _ h9; omega))
 replace HB_x0 := zi (F42.kept (zg HB_x0) (fun h9 => by have b9 := (zg HL_x0) _ h9; omega))
 replace HB_x1 := zi (F42.kept (zg HB_x1) (fun h9 => by have b9 := (zg HL_x0) _ h9; omega))
 replace HB_g0 := zi (F42.kept (zg HB_g0) (fun h9 => by have b9 := (zg HL_x0) _ h9; omega))
 replace HB_g1 := zi (F42.kept (zg HB_g1) (fun h9 => by have b9 := (zg HL_x0) _ h9; omega))
 replace HO_x1 := zi (X1.ofr (zg HO_x1) F42 (fun q9 h8 h9 => by have b8 := (zg HL_x1) q9 h8; have b9 := (zg HL_x0) q9 h9; omega))
 replace HO_g0 := zi (K0.ofr (zg HO_g0) F42 (fun q9 h8 h9 => by have b8 := (zg HL_g0) q9 h8; have b9 := (zg HL_x0) q9 h9; omega))
 replace HO_g1 := zi (K1.ofr (zg HO_g1) F42 (fun q9 h8 h9 => by have b8 := (zg HL_g1) q9 h8; have b9 := (zg HL_x0) q9 h9; omega))
 replace HO_g2 := zi (K2.ofr (zg HO_g2) F42 (fun q9 h8 h9 => by have b8 := (zg HL_g2) q9 h8; have b9 := (zg HL_x0) q9 h9; omega))
 clear z0 z1 z2 z3 z4 z5 z6 z7 z8 z9 z10 z11 z12 z13 z14 z15 z16 z17 z18 z19 z20 z21 z22
 have hs43 := zi F42.size
 replace HO_x0 := zi om
 clear om
 have c_x1_0 := zk (zg HB_x1) 0 _ rfl
 have c_x1_1 := zk (zg HB_x1) 1 _ rfl
 go_wp2_with fail
 clear c_x1_0 c_x1_1
 refine ((zg HMkX1) _ _ _ _ _ (zg HO_x1) (by omega) (by omega)).mono ?_
 rintro e w44 ⟨rfl, om, F45⟩
 have z0 := zg hzW0; have z1 := zg hs3; have z2 := zg hs6; have z3 := zg hz_w0; have z4 := zg HG_w0; have z5 := zg hz_w1; have z6 := zg HG_w1; have z7 := zg hs8; have z8 := zg hs11; have z9 := zg hzV12; have z10 := zg hs13; have z11 := zg hs16; have z12 := zg hzV17; have z13 := zg hs18; have z14 := zg hs21; have z15 := zg hzV22_g0; have z16 := zg hzV22_g1; have z17 := zg hs23; have z18 := zg hs26; have z19 := zg hs29; have z20 := zg hs32; have z21 := zg hs36; have z22 := zg hs40; have z23 := zg hs43
 replace E := F45.ext E (fun _ h9 => by have b9 := (zg HL_x1) _ h9; omega)
 replace HEw := zi (F45.ext (zg HEw) (fun _ h9 => by have b9 := (zg HL_x1) _ h9; omega))
 replace HB_p0 := zi (F45.kept (zg HB_p0) (fun h9 => by have b9 := (zg HL_x1) _ h9; omega))
 replace HB_p1 := zi (F45.kept (zg HB_p1) (fun h9 => by have b9 := (zg HL_x1) _ h9; omega))
 replace HB_w0 := zi (F45.kept (zg HB_w0) (fun h9 => by have b9 := (zg HL_x1) _ h9; omega))
 replace HB_w1 := zi (F45.kept (zg HB_w1) (fun h9 => by have b9 := (zg HL_x1) _ h9; omega))
 replace HB_x0 := zi (F45.kept (zg HB_x0) (fun h9 => by have b9 := (zg HL_x1) _ h9; omega))
 replace HB_x1 := zi (F45.kept (zg HB_x1) (fun h9 => by have b9 := (zg HL_x1) _ h9; omega))
 replace HB_g0 := zi (F45.kept (zg HB_g0) (fun h9 => by have b9 := (zg HL_x1) _ h9; omega))
 replace HB_g1 := zi (F45.kept (zg HB_g1) (fun h9 => by have b9 := (zg HL_x1) _ h9; omega))
 replace HO_x0 := zi ((MX0 (1)).ofr (zg HO_x0) F45 (fun q9 h8 h9 => by have b8 := (zg HL_x0) q9 h8; have b9 := (zg HL_x1) q9 h9; omega))
 replace HO_g0 := zi (K0.ofr (zg HO_g0) F45 (fun q9 h8 h9 => by have b8 := (zg HL_g0) q9 h8; have b9 := (zg HL_x1) q9 h9; omega))
 replace HO_g1 := zi (K1.ofr (zg HO_g1) F45 (fun q9 h8 h9 => by have b8 := (zg HL_g1) q9 h8; have b9 := (zg HL_x1) q9 h9; omega))
 replace HO_g2 := zi (K2.ofr (zg HO_g2) F45 (fun q9 h8 h9 => by have b8 := (zg HL_g2) q9 h8; have b9 := (zg HL_x1) q9 h9; omega))
 clear z0 z1 z2 z3 z4 z5 z6 z7 z8 z9 z10 z11 z12 z13 z14 z15 z16 z17 z18 z19 z20 z21 z22 z23
 have hs46 := zi F45.size
 replace HO_x1 := zi om
 clear om
 have hkk : ¬ (1 + (mX0 : Int) + (mX1 : Int) : Int) < 0 := by omega
 clear HO_x0
 clear HO_x1
 clear HB_x0
 clear HB_x1
 have c_g1_0 := zk (zg HB_g1) 0 _ rfl
 have c_g1_1 := zk (zg HB_g1) 1 _ rfl
 have c_w1_0 := zk (zg HB_w1) 0 _ rfl
 have c_w1_1 := zk (zg HB_w1) 1 _ rfl
 go_wp2_with (first | (refine zm rfl 40 _ rfl (w19.heap.size) rfl _ _ _ _ (zg HB_g0) Tryz.underlying40 rfl (by rw [zg Hz_g0_cs]; exact zq) ?_) | (refine zaU (by rfl) 40 _ rfl (w19.heap.size) rfl _ _ _ _ (zg HB_g0) Tryz.underlying40 rfl (by rw [zg Hz_g0_cs]; exact zq) ?_) | (refine zm rfl 40 _ rfl (bw0) rfl _ _ _ _ (zg HB_w0) Tryz.underlying40 rfl (by rw [zg Hz_w0_cs]; exact zq) ?_) | (refine zaU (by rfl) 40 _ rfl (bw0) rfl _ _ _ _ (zg HB_w0) Tryz.underlying40 rfl (by rw [zg Hz_w0_cs]; exact zq) ?_))
 clear c_g1_0 c_g1_1 c_w1_0 c_w1_1
 refine ((zg HEqK0) _ _ _ (K0.reads (zg HO_g0)) (K0.rext (zg HR_w0) (zg HEw))).mono ?_
 rintro e w47 ⟨rfl, F48⟩
 have hs49 := zi (F48).size
 replace E := E.trans F48
 replace HB_p0 := zi ((F48).kept (zg HB_p0))
 replace HB_p1 := zi ((F48).kept (zg HB_p1))
 replace HB_w0 := zi ((F48).kept (zg HB_w0))
 replace HB_w1 := zi ((F48).kept (zg HB_w1))
 replace HB_g0 := zi ((F48).kept (zg HB_g0))
 replace HB_g1 := zi ((F48).kept (zg HB_g1))
 replace HO_g0 := zi (K0.oext (zg HO_g0) F48)
 replace HO_g1 := zi (K1.oext (zg HO_g1) F48)
 replace HO_g2 := zi (K2.oext (zg HO_g2) F48)
 replace HEw := Hid.ht HEw F48
 have c_g1_0 := zk (zg HB_g1) 0 _ rfl
 have c_g1_1 := zk (zg HB_g1) 1 _ rfl
 have c_w1_0 := zk (zg HB_w1) 0 _ rfl
 have c_w1_1 := zk (zg HB_w1) 1 _ rfl
 go_wp2_with (first | (refine zm rfl 40 _ rfl (w19.heap.size) rfl _ _ _ _ (zg HB_g0) Tryz.underlying40 rfl (by rw [zg Hz_g0_cs]; exact zq) ?_) | (refine zaU (by rfl) 40 _ rfl (w19.heap.size) rfl _ _ _ _ (zg HB_g0) Tryz.underlying40 rfl (by rw [zg Hz_g0_cs]; exact zq) ?_) | (refine zm rfl 40 _ rfl (bw0) rfl _ _ _ _ (zg HB_w0) Tryz.underlying40 rfl (by rw [zg Hz_w0_cs]; exact zq) ?_) | (refine zaU (by rfl) 40 _ rfl (bw0) rfl _ _ _ _ (zg HB_w0) Tryz.underlying40 rfl (by rw [zg Hz_w0_cs]; exact zq) ?_))
 clear c_g1_0 c_g1_1 c_w1_0 c_w1_1
 refine ((zg HEqK1) _ _ _ (K1.reads (zg HO_g1)) (K1.rext (zg HR_w1) (zg HEw))).mono ?_
 rintro e w50 ⟨rfl, F51⟩
 have hs52 := zi (F51).size
 replace E := E.trans F51
 replace HB_p0 := zi ((F51).kept (zg HB_p0))
 replace HB_p1 := zi ((F51).kept (zg HB_p1))
 replace HB_w0 := zi ((F51).kept (zg HB_w0))
 replace HB_w1 := zi ((F51).kept (zg HB_w1))
 replace HB_g0 := zi ((F51).kept (zg HB_g0))
 replace HB_g1 := zi ((F51).kept (zg HB_g1))
 replace HO_g0 := zi (K0.oext (zg HO_g0) F51)
 replace HO_g1 := zi (K1.oext (zg HO_g1) F51)
 replace HO_g2 := zi (K2.oext (zg HO_g2) F51)
 replace HEw := Hid.ht HEw F51
 have c_g1_0 := zk (zg HB_g1) 0 _ rfl
 have c_g1_1 := zk (zg HB_g1) 1 _ rfl
 have c_w1_0 := zk (zg HB_w1) 0 _ rfl
 have c_w1_1 := zk (zg HB_w1) 1 _ rfl
 go_wp2_with (first | (refine zm rfl 40 _ rfl (w19.heap.size) rfl _ _ _ _ (zg HB_g0) Tryz.underlying40 rfl (by rw [zg Hz_g0_cs]; exact zq) ?_) | (refine zaU (by rfl) 40 _ rfl (w19.heap.size) rfl _ _ _ _ (zg HB_g0) Tryz.underlying40 rfl (by rw [zg Hz_g0_cs]; exact zq) ?_) | (refine zm rfl 40 _ rfl (bw0) rfl _ _ _ _ (zg HB_w0) Tryz.underlying40 rfl (by rw [zg Hz_w0_cs]; exact zq) ?_) | (refine zaU (by rfl) 40 _ rfl (bw0) rfl _ _ _ _ (zg HB_w0) Tryz.underlying40 rfl (by rw [zg Hz_w0_cs]; exact zq) ?_))
 clear c_g1_0 c_g1_1 c_w1_0 c_w1_1
 refine ((zg HEqK2) _ _ _ (K2.reads (zg HO_g2)) (K2.rext (zg HR_w2) (zg HEw))).mono ?_
 rintro e w53 ⟨rfl, F54⟩
 have hs55 := zi (F54).size
 replace E := E.trans F54
 replace HB_p0 := zi ((F54).kept (zg HB_p0))
 replace HB_p1 := zi ((F54).kept (zg HB_p1))
 replace HB_w0 := zi ((F54).kept (zg HB_w0))
 replace HB_w1 := zi ((F54).kept (zg HB_w1))
 replace HB_g0 := zi ((F54).kept (zg HB_g0))
 replace HB_g1 := zi ((F54).kept (zg HB_g1))
 replace HO_g0 := zi (K0.oext (zg HO_g0) F54)
 replace HO_g1 := zi (K1.oext (zg HO_g1) F54)
 replace HO_g2 := zi (K2.oext (zg HO_g2) F54)
 replace HEw := Hid.ht HEw F54
 go_wp2_with (refine zm rfl 40 _ rfl (w19.heap.size) rfl _ _ _ _ (zg HB_g0) Tryz.underlying40 rfl (by rw [zg Hz_g0_cs]; exact zq) ?_)
 refine ((zg HMkK0) _ _ _ _ _ (zg HO_g0) (by omega) (by omega)).mono ?_
 rintro e w56 ⟨rfl, om, F57⟩
 have z0 := zg hzW0; have z1 := zg hs3; have z2 := zg hs6; have z3 := zg hz_w0; have z4 := zg HG_w0; have z5 := zg hz_w1; have z6 := zg HG_w1; have z7 := zg hs8; have z8 := zg hs11; have z9 := zg hzV12; have z10 := zg hs13; have z11 := zg hs16; have z12 := zg hzV17; have z13 := zg hs18; have z14 := zg hs21; have z15 := zg hzV22_g0; have z16 := zg hzV22_g1; have z17 := zg hs23; have z18 := zg hs26; have z19 := zg hs29; have z20 := zg hs32; have z21 := zg hs36; have z22 := zg hs40; have z23 := zg hs43; have z24 := zg hs46; have z25 := zg hs49; have z26 := zg hs52; have z27 := zg hs55
 replace E := F57.ext E (fun _ h9 => by have b9 := (zg HL_g0) _ h9; omega)
 replace HEw := zi (F57.ext (zg HEw) (fun _ h9 => by have b9 := (zg HL_g0) _ h9; omega))
 replace HB_p0 := zi (F57.kept (zg HB_p0) (fun h9 => by have b9 := (zg HL_g0) _ h9; omega))
 replace HB_p1 := zi (F57.kept (zg HB_p1) (fun h9 => by have b9 := (zg HL_g0) _ h9; omega))
 replace HB_w0 := zi (F57.kept (zg HB_w0) (fun h9 => by have b9 := (zg HL_g0) _ h9; omega))
 replace HB_w1 := zi (F57.kept (zg HB_w1) (fun h9 => by have b9 := (zg HL_g0) _ h9; omega))
 replace HB_g0 := zi (F57.kept (zg HB_g0) (fun h9 => by have b9 := (zg HL_g0) _ h9; omega))
 replace HB_g1 := zi (F57.kept (zg HB_g1) (fun h9 => by have b9 := (zg HL_g0) _ h9; omega))
 replace HO_g1 := zi (K1.ofr (zg HO_g1) F57 (fun q9 h8 h9 => (zg HD_g0_g1) q9 h9 h8))
 replace HO_g2 := zi (K2.ofr (zg HO_g2) F57 (fun q9 h8 h9 => (zg HD_g0_g2) q9 h9 h8))
 clear z0 z1 z2 z3 z4 z5 z6 z7 z8 z9 z10 z11 z12 z13 z14 z15 z16 z17 z18 z19 z20 z21 z22 z23 z24 z25 z26 z27
 have hs58 := zi F57.size
 replace HO_g0 := zi om
 clear om
 have c_g1_0 := zk (zg HB_g1) 0 _ rfl
 have c_g1_1 := zk (zg HB_g1) 1 _ rfl
 go_wp2_with fail
 clear c_g1_0 c_g1_1
 refine ((zg HMkK1) _ _ _ _ _ (zg HO_g1) (by omega) (by omega)).mono ?_
 rintro e w59 ⟨rfl, om, F60⟩
 have z0 := zg hzW0; have z1 := zg hs3; have z2 := zg hs6; have z3 := zg hz_w0; have z4 := zg HG_w0; have z5 := zg hz_w1; have z6 := zg HG_w1; have z7 := zg hs8; have z8 := zg hs11; have z9 := zg hzV12; have z10 := zg hs13; have z11 := zg hs16; have z12 := zg hzV17; have z13 := zg hs18; have z14 := zg hs21; have z15 := zg hzV22_g0; have z16 := zg hzV22_g1; have z17 := zg hs23; have z18 := zg hs26; have z19 := zg hs29; have z20 := zg hs32; have z21 := zg hs36; have z22 := zg hs40; have z23 := zg hs43; have z24 := zg hs46; have z25 := zg hs49; have z26 := zg hs52; have z27 := zg hs55; have z28 := zg hs58
 replace E := F60.ext E (fun _ h9 => by have b9 := (zg HL_g1) _ h9; omega)
 replace HEw := zi (F60.ext (zg HEw) (fun _ h9 => by have b9 := (zg HL_g1) _ h9; omega))
 replace HB_p0 := zi (F60.kept (zg HB_p0) (fun h9 => by have b9 := (zg HL_g1) _ h9; omega))
 replace HB_p1 := zi (F60.kept (zg HB_p1) (fun h9 => by have b9 := (zg HL_g1) _ h9; omega))
 replace HB_w0 := zi (F60.kept (zg HB_w0) (fun h9 => by have b9 := (zg HL_g1) _ h9; omega))
 replace HB_w1 := zi (F60.kept (zg HB_w1) (fun h9 => by have b9 := (zg HL_g1) _ h9; omega))
 replace HB_g0 := zi (F60.kept (zg HB_g0) (fun h9 => by have b9 := (zg HL_g1) _ h9; omega))
 replace HB_g1 := zi (F60.kept (zg HB_g1) (fun h9 => by have b9 := (zg HL_g1) _ h9; omega))
 replace HO_g0 := zi ((MK0 (1)).ofr (zg HO_g0) F60 (fun q9 h8 h9 => (zg HD_g0_g1) q9 h8 h9))
 replace HO_g2 := zi (K2.ofr (zg HO_g2) F60 (fun q9 h8 h9 => (zg HD_g1_g2) q9 h9 h8))
 clear z0 z1 z2 z3 z4 z5 z6 z7 z8 z9 z10 z11 z12 z13 z14 z15 z16 z17 z18 z19 z20 z21 z22 z23 z24 z25 z26 z27 z28
 have hs61 := zi F60.size
 replace HO_g1 := zi om
 clear om
 go_wp2_with fail
 refine ((zg HMkK2) _ _ _ _ _ (zg HO_g2) (by omega) (by omega)).mono ?_
 rintro e w62 ⟨rfl, om, F63⟩
 have z0 := zg hzW0; have z1 := zg hs3; have z2 := zg hs6; have z3 := zg hz_w0; have z4 := zg HG_w0; have z5 := zg hz_w1; have z6 := zg HG_w1; have z7 := zg hs8; have z8 := zg hs11; have z9 := zg hzV12; have z10 := zg hs13; have z11 := zg hs16; have z12 := zg hzV17; have z13 := zg hs18; have z14 := zg hs21; have z15 := zg hzV22_g0; have z16 := zg hzV22_g1; have z17 := zg hs23; have z18 := zg hs26; have z19 := zg hs29; have z20 := zg hs32; have z21 := zg hs36; have z22 := zg hs40; have z23 := zg hs43; have z24 := zg hs46; have z25 := zg hs49; have z26 := zg hs52; have z27 := zg hs55; have z28 := zg hs58; have z29 := zg hs61
 replace E := F63.ext E (fun _ h9 => by have b9 := (zg HL_g2) _ h9; omega)
 replace HEw := zi (F63.ext (zg HEw) (fun _ h9 => by have b9 := (zg HL_g2) _ h9; omega))
 replace HB_p0 := zi (F63.kept (zg HB_p0) (fun h9 => by have b9 := (zg HL_g2) _ h9; omega))
 replace HB_p1 := zi (F63.kept (zg HB_p1) (fun h9 => by have b9 := (zg HL_g2) _ h9; omega))
 replace HB_w0 := zi (F63.kept (zg HB_w0) (fun h9 => by have b9 := (zg HL_g2) _ h9; omega))
 replace HB_w1 := zi (F63.kept (zg HB_w1) (fun h9 => by have b9 := (zg HL_g2) _ h9; omega))
 replace HB_g0 := zi (F63.kept (zg HB_g0) (fun h9 => by have b9 := (zg HL_g2) _ h9; omega))
 replace HB_g1 := zi (F63.kept (zg HB_g1) (fun h9 => by have b9 := (zg HL_g2) _ h9; omega))
 replace HO_g0 := zi ((MK0 (1)).ofr (zg HO_g0) F63 (fun q9 h8 h9 => (zg HD_g0_g2) q9 h8 h9))
 replace HO_g1 := zi ((MK1 (1 + (mK0 : Int))).ofr (zg HO_g1) F63 (fun q9 h8 h9 => (zg HD_g1_g2) q9 h8 h9))
 clear z0 z1 z2 z3 z4 z5 z6 z7 z8 z9 z10 z11 z12 z13 z14 z15 z16 z17 z18 z19 z20 z21 z22 z23 z24 z25 z26 z27 z28 z29
 have hs64 := zi F63.size
 replace HO_g2 := zi om
 clear om
 have hq0 : ¬ (1 + (mK0 : Int) : Int) < 0 := by omega
 go_wp2_with (refine zm rfl 40 _ rfl (w19.heap.size) rfl _ _ _ _ (zg HB_g0) Tryz.underlying40 rfl (by rw [zg Hz_g0_cs]; exact zq) ?_)
 refine ((zg HHdK0) _ _ _ ((MK0 (1)).reads (zg HO_g0)) (by omega) (by omega)).mono ?_
 rintro e w65 ⟨rfl, F66⟩
 have hs67 := zi (F66).size
 replace E := E.trans F66
 replace HB_p0 := zi ((F66).kept (zg HB_p0))
 replace HB_p1 := zi ((F66).kept (zg HB_p1))
 replace HB_w0 := zi ((F66).kept (zg HB_w0))
 replace HB_w1 := zi ((F66).kept (zg HB_w1))
 replace HB_g0 := zi ((F66).kept (zg HB_g0))
 replace HB_g1 := zi ((F66).kept (zg HB_g1))
 replace HO_g0 := zi ((MK0 (1)).oext (zg HO_g0) F66)
 replace HO_g1 := zi ((MK1 (1 + (mK0 : Int))).oext (zg HO_g1) F66)
 replace HO_g2 := zi ((MK2 (1 + (mK0 : Int) + (mK1 : Int))).oext (zg HO_g2) F66)
 replace HEw := Hid.ht HEw F66
 have hq1 : ¬ (1 + (mK0 : Int) + (mK1 : Int) : Int) < 0 := by omega
 have c_g1_0 := zk (zg HB_g1) 0 _ rfl
 have c_g1_1 := zk (zg HB_g1) 1 _ rfl
 go_wp2_with fail
 clear c_g1_0 c_g1_1
 refine ((zg HHdK1) _ _ _ ((MK1 (1 + (mK0 : Int))).reads (zg HO_g1)) (by omega) (by omega)).mono ?_
 rintro e w68 ⟨rfl, F69⟩
 have hs70 := zi (F69).size
 replace E := E.trans F69
 replace HB_p0 := zi ((F69).kept (zg HB_p0))
 replace HB_p1 := zi ((F69).kept (zg HB_p1))
 replace HB_w0 := zi ((F69).kept (zg HB_w0))
 replace HB_w1 := zi ((F69).kept (zg HB_w1))
 replace HB_g0 := zi ((F69).kept (zg HB_g0))
 replace HB_g1 := zi ((F69).kept (zg HB_g1))
 replace HO_g0 := zi ((MK0 (1)).oext (zg HO_g0) F69)
 replace HO_g1 := zi ((MK1 (1 + (mK0 : Int))).oext (zg HO_g1) F69)
 replace HO_g2 := zi ((MK2 (1 + (mK0 : Int) + (mK1 : Int))).oext (zg HO_g2) F69)
 replace HEw := Hid.ht HEw F69
 have hq2 : ¬ (1 + (mK0 : Int) + (mK1 : Int) + (mK2 : Int) : Int) < 0 := by omega
 go_wp2_with fail
 refine ((zg HHdK2) _ _ _ ((MK2 (1 + (mK0 : Int) + (mK1 : Int))).reads (zg HO_g2)) (by omega) (by omega)).mono ?_
 rintro e w71 ⟨rfl, F72⟩
 have hs73 := zi (F72).size
 replace E := E.trans F72
 replace HB_p0 := zi ((F72).kept (zg HB_p0))
 replace HB_p1 := zi ((F72).kept (zg HB_p1))
 replace HB_w0 := zi ((F72).kept (zg HB_w0))
 replace HB_w1 := zi ((F72).kept (zg HB_w1))
 replace HB_g0 := zi ((F72).kept (zg HB_g0))
 replace HB_g1 := zi ((F72).kept (zg HB_g1))
 replace HO_g0 := zi ((MK0 (1)).oext (zg HO_g0) F72)
 replace HO_g1 := zi ((MK1 (1 + (mK0 : Int))).oext (zg HO_g1) F72)
 replace HO_g2 := zi ((MK2 (1 + (mK0 : Int) + (mK1 : Int))).oext (zg HO_g2) F72)
 replace HEw := Hid.ht HEw F72
 go_upto_region 39 with fail
 go_cut [19, 20, 21, 22] (fun v0 v1 v2 v3 wq => ∃ (bh0 : Nat) (bh1 : Nat) (h0_cs : Array Value) (h1_0 : Int) (h1_1a : Option Addr) (h1_1n : Nat) (h1_1c : Nat) (h2_a : Option Addr) (h2_n : Nat) (h2_c : Nat) (Bh0 : Nat) (Sh0 : Nat → Prop) (Bh1 : Nat) (Sh1 : Nat → Prop) (Bh2 : Nat) (Sh2 : Nat → Prop), v0 = .pointer (some ⟨bh0, 0, none⟩) ∧ v1 = .pointer (some ⟨bh1, 0, none⟩) ∧ v2 = .slice h2_a h2_n h2_c ∧ v3 = .int .i64 q3 ∧ Hid (wq.heap[bh0]? = some (.cells h0_cs 40 (0, 0))) ∧ Hid (w71.heap.size ≤ bh0) ∧ Hid (wq.heap[bh1]? = some (.cells #[.int .i64 h1_0, .slice h1_1a h1_1n h1_1c] 41 (0, 0))) ∧ Hid (w71.heap.size ≤ bh1) ∧ Hid (K0.O wq Bh0 Sh0 (.agg h0_cs)) ∧ Hid (∀ g, Sh0 g → w71.heap.size ≤ g ∧ g < wq.heap.size ∧ g ≠ bh0 ∧ g ≠ bh1) ∧ Hid (h0_cs.size = 17) ∧ Hid (h0_cs.all (·.oneCell') = true) ∧ Hid (K1.O wq Bh1 Sh1 (.agg #[.int .i64 h1_0, .slice h1_1a h1_1n h1_1c])) ∧ Hid (∀ g, Sh1 g → w71.heap.size ≤ g ∧ g < wq.heap.size ∧ g ≠ bh0 ∧ g ≠ bh1) ∧ Hid (K2.O wq Bh2 Sh2 (.slice h2_a h2_n h2_c)) ∧ Hid (∀ g, Sh2 g → w71.heap.size ≤ g ∧ g < wq.heap.size ∧ g ≠ bh0 ∧ g ≠ bh1) ∧ Hid (∀ g, Sh0 g → ¬ Sh1 g) ∧ Hid (∀ g, Sh0 g → ¬ Sh2 g) ∧ Hid (∀ g, Sh1 g → ¬ Sh2 g) ∧ Hid (bh0 ≠ bh1) ∧ Hid (Ext w71 wq))
 case first =>
  refine wp_region_held_drew (S := fun W => W.heap[w.heap.size]? = some (.cells p0_cs 30 (0, 0)) ∧ W.heap[w.heap.size + 1]? = some (.cells #[.int .i64 p1_0, .slice p1_1a p1_1n p1_1c] 32 (0, 0))) (by kernel_rfl) (⟨zg HB_p0, zg HB_p1⟩) (fun hHeld => ?_)
  refine tk 0 (.agg p0_cs) rfl (by kernel_rfl) (fun _ _ _ h => h) (by rfl) ?_ (by assumption) ?_
  ·intro w' hSw; exact zae 30 _ rfl (w.heap.size) rfl _ _ _ _ (hSw.1) Tryz.underlying30 rfl (by rw [zg Hz_p0_cs]; exact zaX)
  simp only [Act.put, q9]
  refine tk 2 (.agg #[.int .i64 p1_0, .slice p1_1a p1_1n p1_1c]) rfl (by kernel_rfl) (fun _ _ _ h => h) (by rfl) ?_ (by assumption) ?_
  ·intro w' hSw; exact zae 32 _ rfl (w.heap.size + 1) rfl _ _ _ _ (hSw.2) Tryz.underlying32 rfl (by kernel_rfl)
  simp only [Act.put, q9]
  have G := zi ((Ext.refl w71).drew)
  generalize w71.drew = Wc at *
  revert hHeld; revert G; revert Wc; have tS : Tk 0 := rfl; revert tS
  refine' (fun (k311 : (_ : Prop)) => _) _; rotate_left
  refine' (fun (k301 : (_ : Prop)) => _) _; rotate_left
  refine' (fun (k310 : (_ : Prop)) => _) _; rotate_left
  refine' (fun (k211 : (_ : Prop)) => _) _; rotate_left
  refine' (fun (k300 : (_ : Prop)) => _) _; rotate_left
  refine' (fun (k201 : (_ : Prop)) => _) _; rotate_left
  refine' (fun (k210 : (_ : Prop)) => _) _; rotate_left
  refine' (fun (k111 : (_ : Prop)) => _) _; rotate_left
  refine' (fun (k200 : (_ : Prop)) => _) _; rotate_left
  refine' (fun (k101 : (_ : Prop)) => _) _; rotate_left
  refine' (fun (k110 : (_ : Prop)) => _) _; rotate_left
  refine' (fun (k011 : (_ : Prop)) => _) _; rotate_left
  refine' (fun (k100 : (_ : Prop)) => _) _; rotate_left
  refine' (fun (k001 : (_ : Prop)) => _) _; rotate_left
  refine' (fun (k010 : (_ : Prop)) => _) _; rotate_left
  iterate 15 (intro tS; ((first
   | (have _t : Tk 0 := tS; clear _t tS; intro Wc G hHeld; have tC : Tk 0 := rfl; refine wpAnyH_ready (rs := [1, 10, 11]) (by kernel_rfl) (by simp) ?_; refine (AllReadyH.cons rfl (fun K hK => (fun (tE : Tk 0) => ?_) rfl) (AllReadyH.cons rfl (fun K hK => (fun (tE : Tk 10) => ?_) rfl) (AllReadyH.cons rfl (fun K hK => (fun (tE : Tk 11) => ?_) rfl) AllReadyH.nil))))
   | (have _t : Tk 1 := tS; clear _t tS; intro Wc b0 G hHeld HM0 HB0; have tC : Tk 0 := rfl; refine wpAnyH_ready (rs := [1, 11]) (by kernel_rfl) (by simp) ?_; refine (AllReadyH.cons rfl (fun K hK => (fun (tE : Tk 0) => ?_) rfl) (AllReadyH.cons rfl (fun K hK => (fun (tE : Tk 11) => ?_) rfl) AllReadyH.nil)))
   | (have _t : Tk 2 := tS; clear _t tS; intro Wc b1 G hHeld HM1 HB1; have tC : Tk 0 := rfl; refine wpAnyH_ready (rs := [1, 10]) (by kernel_rfl) (by simp) ?_; refine (AllReadyH.cons rfl (fun K hK => (fun (tE : Tk 0) => ?_) rfl) (AllReadyH.cons rfl (fun K hK => (fun (tE : Tk 10) => ?_) rfl) AllReadyH.nil)))
   | (have _t : Tk 3 := tS; clear _t tS; intro Wc t0_cs G hHeld HR_t0; have tC : Tk 1 := rfl; refine wpAnyH_ready (rs := [3, 10, 11]) (by kernel_rfl) (by simp) ?_; refine (AllReadyH.cons rfl (fun K hK => (fun (tE : Tk 1) => ?_) rfl) (AllReadyH.cons rfl (fun K hK => (fun (tE : Tk 10) => ?_) rfl) (AllReadyH.cons rfl (fun K hK => (fun (tE : Tk 11) => ?_) rfl) AllReadyH.nil))))
   | (have _t : Tk 4 := tS; clear _t tS; intro Wc b0 b1 G hHeld HM0 HB0 HM1 HB1 HN01; have tC : Tk 0 := rfl; refine wpAnyH_ready (rs := [1]) (by kernel_rfl) (by simp) ?_; refine (AllReadyH.cons rfl (fun K hK => (fun (tE : Tk 0) => ?_) rfl) AllReadyH.nil))
   | (have _t : Tk 5 := tS; clear _t tS; intro Wc b0 t0_cs G hHeld HM0 HB0 HR_t0; have tC : Tk 1 := rfl; refine wpAnyH_ready (rs := [3, 11]) (by kernel_rfl) (by simp) ?_; refine (AllReadyH.cons rfl (fun K hK => (fun (tE : Tk 1) => ?_) rfl) (AllReadyH.cons rfl (fun K hK => (fun (tE : Tk 11) => ?_) rfl) AllReadyH.nil)))
   | (have _t : Tk 6 := tS; clear _t tS; intro Wc b1 t0_cs G hHeld HM1 HB1 HR_t0; have tC : Tk 1 := rfl; refine wpAnyH_ready (rs := [3, 10]) (by kernel_rfl) (by simp) ?_; refine (AllReadyH.cons rfl (fun K hK => (fun (tE : Tk 1) => ?_) rfl) (AllReadyH.cons rfl (fun K hK => (fun (tE : Tk 10) => ?_) rfl) AllReadyH.nil)))
   | (have _t : Tk 7 := tS; clear _t tS; intro Wc t0_cs t1_0 t1_1a t1_1n t1_1c G hHeld HR_t0 HR_t1; have tC : Tk 2 := rfl; refine wpAnyH_ready (rs := [4, 10, 11]) (by kernel_rfl) (by simp) ?_; refine (AllReadyH.cons rfl (fun K hK => (fun (tE : Tk 2) => ?_) rfl) (AllReadyH.cons rfl (fun K hK => (fun (tE : Tk 10) => ?_) rfl) (AllReadyH.cons rfl (fun K hK => (fun (tE : Tk 11) => ?_) rfl) AllReadyH.nil))))
   | (have _t : Tk 8 := tS; clear _t tS; intro Wc b0 b1 t0_cs G hHeld HM0 HB0 HM1 HB1 HN01 HR_t0; have tC : Tk 1 := rfl; refine wpAnyH_ready (rs := [3]) (by kernel_rfl) (by simp) ?_; refine (AllReadyH.cons rfl (fun K hK => (fun (tE : Tk 1) => ?_) rfl) AllReadyH.nil))
   | (have _t : Tk 9 := tS; clear _t tS; intro Wc b0 t0_cs t1_0 t1_1a t1_1n t1_1c G hHeld HM0 HB0 HR_t0 HR_t1; have tC : Tk 2 := rfl; refine wpAnyH_ready (rs := [4, 11]) (by kernel_rfl) (by simp) ?_; refine (AllReadyH.cons rfl (fun K hK => (fun (tE : Tk 2) => ?_) rfl) (AllReadyH.cons rfl (fun K hK => (fun (tE : Tk 11) => ?_) rfl) AllReadyH.nil)))
   | (have _t : Tk 10 := tS; clear _t tS; intro Wc b1 t0_cs t1_0 t1_1a t1_1n t1_1c G hHeld HM1 HB1 HR_t0 HR_t1; have tC : Tk 2 := rfl; refine wpAnyH_ready (rs := [4, 10]) (by kernel_rfl) (by simp) ?_; refine (AllReadyH.cons rfl (fun K hK => (fun (tE : Tk 2) => ?_) rfl) (AllReadyH.cons rfl (fun K hK => (fun (tE : Tk 10) => ?_) rfl) AllReadyH.nil)))
   | (have _t : Tk 11 := tS; clear _t tS; intro Wc t0_cs t1_0 t1_1a t1_1n t1_1c h0_cs h1_0 h1_1a h1_1n h1_1c h2_a h2_n h2_c S0 S1 S2 B9 G hHeld HPP HOo0 HOo1 HOo2 Hz0 Ho0 HDd01 HDd02 HDd12; have tC : Tk 3 := rfl; refine wpAnyH_ready (rs := [10, 11]) (by kernel_rfl) (by simp) ?_; refine (AllReadyH.cons rfl (fun K hK => (fun (tE : Tk 10) => ?_) rfl) (AllReadyH.cons rfl (fun K hK => (fun (tE : Tk 11) => ?_) rfl) AllReadyH.nil)))
   | (have _t : Tk 12 := tS; clear _t tS; intro Wc b0 b1 t0_cs t1_0 t1_1a t1_1n t1_1c G hHeld HM0 HB0 HM1 HB1 HN01 HR_t0 HR_t1; have tC : Tk 2 := rfl; refine wpAnyH_ready (rs := [4]) (by kernel_rfl) (by simp) ?_; refine (AllReadyH.cons rfl (fun K hK => (fun (tE : Tk 2) => ?_) rfl) AllReadyH.nil))
   | (have _t : Tk 13 := tS; clear _t tS; intro Wc b0 t0_cs t1_0 t1_1a t1_1n t1_1c h0_cs h1_0 h1_1a h1_1n h1_1c h2_a h2_n h2_c S0 S1 S2 B9 G hHeld HM0 HB0 HPP HOo0 HOo1 HOo2 Hz0 Ho0 HDd01 HDd02 HDd12 HQ0; have tC : Tk 3 := rfl; refine wpAnyH_ready (rs := [11]) (by kernel_rfl) (by simp) ?_; refine (AllReadyH.cons rfl (fun K hK => (fun (tE : Tk 11) => ?_) rfl) AllReadyH.nil))
   | (have _t : Tk 14 := tS; clear _t tS; intro Wc b1 t0_cs t1_0 t1_1a t1_1n t1_1c h0_cs h1_0 h1_1a h1_1n h1_1c h2_a h2_n h2_c S0 S1 S2 B9 G hHeld HM1 HB1 HPP HOo0 HOo1 HOo2 Hz0 Ho0 HDd01 HDd02 HDd12 HQ1; have tC : Tk 3 := rfl; refine wpAnyH_ready (rs := [10]) (by kernel_rfl) (by simp) ?_; refine (AllReadyH.cons rfl (fun K hK => (fun (tE : Tk 10) => ?_) rfl) AllReadyH.nil))
  ) <;> (go_simp; first
   | (have _t : Tk 0 := tE; clear _t tE; refine ((zg HTo0) _ (E.trans (zg G))).mono ?_; rintro e Wc ⟨u9, S9, rfl, o9, f9⟩; (try replace HM0 := f9.hk HM0); (try replace HB0 : Hid (w71.heap.size ≤ b0 ∧ b0 < Wc.heap.size) := zi (by have h1 := zg HB0; have h2 := f9.size; omega)); (try replace HM1 := f9.hk HM1); (try replace HB1 : Hid (w71.heap.size ≤ b1 ∧ b1 < Wc.heap.size) := zi (by have h1 := zg HB1; have h2 := f9.size; omega)); (try replace HR_t0 := zi (X0.rext (zg HR_t0) f9)); (try replace HR_t1 := zi (X1.rext (zg HR_t1) f9)); have HR_t0 := zi (X0.reads o9); obtain ⟨t0_cs, rfl, z8, z9⟩ := (zg ShX0) _ _ (zg HR_t0); clear o9; clear z8 z9; replace G := Hid.ht G f9; clear f9 hHeld; refine hK.out _ _ ⟨(zg G).kept (zg HB_p0), (zg G).kept (zg HB_p1)⟩ (fun hHeld => ?_); clear hK K; clear tC; have tC : Tk 1 := rfl)
   | (have _t : Tk 1 := tE; clear _t tE; refine ((zg HTo1) _ (E.trans (zg G))).mono ?_; rintro e Wc ⟨u9, S9, rfl, o9, f9⟩; (try replace HM0 := f9.hk HM0); (try replace HB0 : Hid (w71.heap.size ≤ b0 ∧ b0 < Wc.heap.size) := zi (by have h1 := zg HB0; have h2 := f9.size; omega)); (try replace HM1 := f9.hk HM1); (try replace HB1 : Hid (w71.heap.size ≤ b1 ∧ b1 < Wc.heap.size) := zi (by have h1 := zg HB1; have h2 := f9.size; omega)); (try replace HR_t0 := zi (X0.rext (zg HR_t0) f9)); (try replace HR_t1 := zi (X1.rext (zg HR_t1) f9)); have HR_t1 := zi (X1.reads o9); obtain ⟨t1_0, t1_1a, t1_1n, t1_1c, rfl⟩ := (zg ShX1) _ _ (zg HR_t1); clear o9; replace G := Hid.ht G f9; clear f9 hHeld; refine hK.out _ _ ⟨(zg G).kept (zg HB_p0), (zg G).kept (zg HB_p1)⟩ (fun hHeld => ?_); clear hK K; clear tC; have tC : Tk 2 := rfl)
   | (have _t : Tk 2 := tE; clear _t tE; have HZ9 := zi (zg G).size; obtain ⟨B9, hB9⟩ : ∃ B, B = Wc.heap.size := ⟨_, rfl⟩; refine ((zg HI) _ _ _ (E.trans (zg G)) (zg HR_t0) (zg HR_t1)).mono ?_; rintro e Wc ⟨u0, S0, u1, S1, u2, S2, rfl, o0, o1, o2, a01, a02, a12, f9⟩; have HPP : Hid (∀ g, S0 g ∨ S1 g ∨ S2 g → w71.heap.size ≤ g ∧ g < Wc.heap.size) := zi (fun g9 h9 => by have h2 := zg HZ9; rcases h9 with h9 | h9 | h9; have h1 := K0.lt o0 g9 h9; omega; have h1 := K1.lt o1 g9 h9; omega; have h1 := K2.lt o2 g9 h9; omega); (try have HQ0 : Hid (∀ g, S0 g ∨ S1 g ∨ S2 g → g ≠ b0) := zi (fun g9 h9 => by have h3 := zg HB0; rcases h9 with h9 | h9 | h9; have h1 := K0.lt o0 g9 h9; omega; have h1 := K1.lt o1 g9 h9; omega; have h1 := K2.lt o2 g9 h9; omega)); (try have HQ1 : Hid (∀ g, S0 g ∨ S1 g ∨ S2 g → g ≠ b1) := zi (fun g9 h9 => by have h3 := zg HB1; rcases h9 with h9 | h9 | h9; have h1 := K0.lt o0 g9 h9; omega; have h1 := K1.lt o1 g9 h9; omega; have h1 := K2.lt o2 g9 h9; omega)); rw [← hB9] at o0 o1 o2; clear hB9; obtain ⟨h0_cs, rfl, hz09, ho09⟩ := (zg ShK0) _ _ (K0.reads o0); have Hz0 := zi hz09; have Ho0 := zi ho09; clear hz09 ho09; have HOo0 := zi o0; obtain ⟨h1_0, h1_1a, h1_1n, h1_1c, rfl⟩ := (zg ShK1) _ _ (K1.reads o1); have HOo1 := zi o1; obtain ⟨h2_a, h2_n, h2_c, rfl⟩ := (zg ShK2) _ _ (K2.reads o2); have HOo2 := zi o2; have HDd01 := zi a01; have HDd02 := zi a02; have HDd12 := zi a12; (try replace HM0 := f9.hk HM0); (try replace HB0 : Hid (w71.heap.size ≤ b0 ∧ b0 < Wc.heap.size) := zi (by have h1 := zg HB0; have h2 := f9.size; omega)); (try replace HM1 := f9.hk HM1); (try replace HB1 : Hid (w71.heap.size ≤ b1 ∧ b1 < Wc.heap.size) := zi (by have h1 := zg HB1; have h2 := f9.size; omega)); clear HZ9 o0 o1 o2 a01 a02 a12; replace G := Hid.ht G f9; clear f9 hHeld; refine hK.out _ _ ⟨(zg G).kept (zg HB_p0), (zg G).kept (zg HB_p1)⟩ (fun hHeld => ?_); clear hK K; clear tC; have tC : Tk 3 := rfl; refine tk 5 ?_ rfl (by kernel_rfl) (fun _ _ _ h => h) (by rfl) ?_ (by assumption) ?_; rotate_left; (focus (intro w' hSw; go_simp <;> with_reducible rfl)); simp only [Act.put, q9]; refine tk 6 ?_ rfl (by kernel_rfl) (fun _ _ _ h => h) (by rfl) ?_ (by assumption) ?_; rotate_left; (focus (intro w' hSw; go_simp <;> with_reducible rfl)); simp only [Act.put, q9]; refine tk 7 ?_ rfl (by kernel_rfl) (fun _ _ _ h => h) (by rfl) ?_ (by assumption) ?_; rotate_left; (focus (intro w' hSw; go_simp <;> with_reducible rfl)); simp only [Act.put, q9]; refine tk 8 ?_ rfl (by kernel_rfl) (fun _ _ _ h => h) (by rfl) ?_ (by assumption) ?_; rotate_left; (focus (intro w' hSw; go_simp <;> with_reducible rfl)); simp only [Act.put, q9]; refine tk 9 ?_ rfl (by kernel_rfl) (fun _ _ _ h => h) (by rfl) ?_ (by assumption) ?_; rotate_left; (focus (intro w' hSw; go_simp <;> with_reducible rfl)); simp only [Act.put, q9])
   | (have _t : Tk 10 := tE; clear _t tE; have n9 := zn Wc (.cells zS7 40); have f9 := (Ext.refl Wc).alloc (.cells zS7 40); have l9 := (zg G).size; obtain ⟨b0, hb9⟩ : ∃ b, b = Wc.heap.size := ⟨_, rfl⟩; (try have HQ0 : Hid (∀ g, S0 g ∨ S1 g ∨ S2 g → g ≠ b0) := zi (fun g9 h9 => by have h1 := (zg HPP) g9 h9; omega)); (try have HN01 : Hid (b0 ≠ b1) := zi (by have h3 := zg HB1; omega)); rw [← hb9] at n9 l9 ⊢; clear hb9; generalize Wc.alloc (.cells zS7 40) = Wc at n9 f9 ⊢; have HB0 : Hid (w71.heap.size ≤ b0 ∧ b0 < Wc.heap.size) := zi ⟨l9, zt n9⟩; (try replace HM1 := f9.hk HM1); (try replace HB1 : Hid (w71.heap.size ≤ b1 ∧ b1 < Wc.heap.size) := zi (by have h1 := zg HB1; have h2 := f9.size; omega)); (try replace HR_t0 := zi (X0.rext (zg HR_t0) f9)); (try replace HR_t1 := zi (X1.rext (zg HR_t1) f9)); (try replace HPP : Hid (∀ g, S0 g ∨ S1 g ∨ S2 g → w71.heap.size ≤ g ∧ g < Wc.heap.size) := zi (fun g9 h9 => by have h1 := (zg HPP) g9 h9; have h2 := f9.size; omega)); (try replace HOo0 := zi (K0.oext (zg HOo0) f9)); (try replace HOo1 := zi (K1.oext (zg HOo1) f9)); (try replace HOo2 := zi (K2.oext (zg HOo2) f9)); have HM0 := zi n9; clear n9 l9; replace G := Hid.ht G f9; clear f9 hHeld; refine hK.out _ _ ⟨(zg G).kept (zg HB_p0), (zg G).kept (zg HB_p1)⟩ (fun hHeld => ?_); clear hK K)
   | (have _t : Tk 11 := tE; clear _t tE; have n9 := zn Wc (.cells zH2 41); have f9 := (Ext.refl Wc).alloc (.cells zH2 41); have l9 := (zg G).size; obtain ⟨b1, hb9⟩ : ∃ b, b = Wc.heap.size := ⟨_, rfl⟩; (try have HQ1 : Hid (∀ g, S0 g ∨ S1 g ∨ S2 g → g ≠ b1) := zi (fun g9 h9 => by have h1 := (zg HPP) g9 h9; omega)); (try have HN01 : Hid (b0 ≠ b1) := zi (by have h3 := zg HB0; omega)); rw [← hb9] at n9 l9 ⊢; clear hb9; generalize Wc.alloc (.cells zH2 41) = Wc at n9 f9 ⊢; have HB1 : Hid (w71.heap.size ≤ b1 ∧ b1 < Wc.heap.size) := zi ⟨l9, zt n9⟩; (try replace HM0 := f9.hk HM0); (try replace HB0 : Hid (w71.heap.size ≤ b0 ∧ b0 < Wc.heap.size) := zi (by have h1 := zg HB0; have h2 := f9.size; omega)); (try replace HR_t0 := zi (X0.rext (zg HR_t0) f9)); (try replace HR_t1 := zi (X1.rext (zg HR_t1) f9)); (try replace HPP : Hid (∀ g, S0 g ∨ S1 g ∨ S2 g → w71.heap.size ≤ g ∧ g < Wc.heap.size) := zi (fun g9 h9 => by have h1 := (zg HPP) g9 h9; have h2 := f9.size; omega)); (try replace HOo0 := zi (K0.oext (zg HOo0) f9)); (try replace HOo1 := zi (K1.oext (zg HOo1) f9)); (try replace HOo2 := zi (K2.oext (zg HOo2) f9)); have HM1 := zi n9; clear n9 l9; replace G := Hid.ht G f9; clear f9 hHeld; refine hK.out _ _ ⟨(zg G).kept (zg HB_p0), (zg G).kept (zg HB_p1)⟩ (fun hHeld => ?_); clear hK K)
  ) <;> (first
   | (have _t : Tk 0 := tC; have _m := And.intro HM0 HM1; clear _m; clear _t tC; revert HN01; revert HB1; revert HM1; revert HB0; revert HM0; revert hHeld; revert G; revert b1; revert b0; revert Wc; have tS : Tk 4 := rfl; revert tS; exact k011)
   | (have _t : Tk 0 := tC; have _m := HM0; clear _m; clear _t tC; revert HB0; revert HM0; revert hHeld; revert G; revert b0; revert Wc; have tS : Tk 1 := rfl; revert tS; exact k010)
   | (have _t : Tk 0 := tC; have _m := HM1; clear _m; clear _t tC; revert HB1; revert HM1; revert hHeld; revert G; revert b1; revert Wc; have tS : Tk 2 := rfl; revert tS; exact k001)
   | (have _t : Tk 1 := tC; have _m := And.intro HM0 HM1; clear _m; clear _t tC; revert HR_t0; revert HN01; revert HB1; revert HM1; revert HB0; revert HM0; revert hHeld; revert G; revert t0_cs; revert b1; revert b0; revert Wc; have tS : Tk 8 := rfl; revert tS; exact k111)
   | (have _t : Tk 1 := tC; have _m := HM0; clear _m; clear _t tC; revert HR_t0; revert HB0; revert HM0; revert hHeld; revert G; revert t0_cs; revert b0; revert Wc; have tS : Tk 5 := rfl; revert tS; exact k110)
   | (have _t : Tk 1 := tC; have _m := HM1; clear _m; clear _t tC; revert HR_t0; revert HB1; revert HM1; revert hHeld; revert G; revert t0_cs; revert b1; revert Wc; have tS : Tk 6 := rfl; revert tS; exact k101)
   | (have _t : Tk 1 := tC; clear _t tC; revert HR_t0; revert hHeld; revert G; revert t0_cs; revert Wc; have tS : Tk 3 := rfl; revert tS; exact k100)
   | (have _t : Tk 2 := tC; have _m := And.intro HM0 HM1; clear _m; clear _t tC; revert HR_t1; revert HR_t0; revert HN01; revert HB1; revert HM1; revert HB0; revert HM0; revert hHeld; revert G; revert t1_1c; revert t1_1n; revert t1_1a; revert t1_0; revert t0_cs; revert b1; revert b0; revert Wc; have tS : Tk 12 := rfl; revert tS; exact k211)
   | (have _t : Tk 2 := tC; have _m := HM0; clear _m; clear _t tC; revert HR_t1; revert HR_t0; revert HB0; revert HM0; revert hHeld; revert G; revert t1_1c; revert t1_1n; revert t1_1a; revert t1_0; revert t0_cs; revert b0; revert Wc; have tS : Tk 9 := rfl; revert tS; exact k210)
   | (have _t : Tk 2 := tC; have _m := HM1; clear _m; clear _t tC; revert HR_t1; revert HR_t0; revert HB1; revert HM1; revert hHeld; revert G; revert t1_1c; revert t1_1n; revert t1_1a; revert t1_0; revert t0_cs; revert b1; revert Wc; have tS : Tk 10 := rfl; revert tS; exact k201)
   | (have _t : Tk 2 := tC; clear _t tC; revert HR_t1; revert HR_t0; revert hHeld; revert G; revert t1_1c; revert t1_1n; revert t1_1a; revert t1_0; revert t0_cs; revert Wc; have tS : Tk 7 := rfl; revert tS; exact k200)
   | (have _t : Tk 3 := tC; have _m := And.intro HM0 HM1; clear _m; clear _t tC; (try clear HR_t0); (try clear HR_t1); revert HQ1; revert HQ0; revert HDd12; revert HDd02; revert HDd01; revert Ho0; revert Hz0; revert HOo2; revert HOo1; revert HOo0; revert HPP; revert HN01; revert HB1; revert HM1; revert HB0; revert HM0; revert hHeld; revert G; revert B9; revert S2; revert S1; revert S0; revert h2_c; revert h2_n; revert h2_a; revert h1_1c; revert h1_1n; revert h1_1a; revert h1_0; revert h0_cs; revert t1_1c; revert t1_1n; revert t1_1a; revert t1_0; revert t0_cs; revert b1; revert b0; revert Wc; have tS : Tk 15 := rfl; revert tS; exact k311)
   | (have _t : Tk 3 := tC; have _m := HM0; clear _m; clear _t tC; (try clear HR_t0); (try clear HR_t1); revert HQ0; revert HDd12; revert HDd02; revert HDd01; revert Ho0; revert Hz0; revert HOo2; revert HOo1; revert HOo0; revert HPP; revert HB0; revert HM0; revert hHeld; revert G; revert B9; revert S2; revert S1; revert S0; revert h2_c; revert h2_n; revert h2_a; revert h1_1c; revert h1_1n; revert h1_1a; revert h1_0; revert h0_cs; revert t1_1c; revert t1_1n; revert t1_1a; revert t1_0; revert t0_cs; revert b0; revert Wc; have tS : Tk 13 := rfl; revert tS; exact k310)
   | (have _t : Tk 3 := tC; have _m := HM1; clear _m; clear _t tC; (try clear HR_t0); (try clear HR_t1); revert HQ1; revert HDd12; revert HDd02; revert HDd01; revert Ho0; revert Hz0; revert HOo2; revert HOo1; revert HOo0; revert HPP; revert HB1; revert HM1; revert hHeld; revert G; revert B9; revert S2; revert S1; revert S0; revert h2_c; revert h2_n; revert h2_a; revert h1_1c; revert h1_1n; revert h1_1a; revert h1_0; revert h0_cs; revert t1_1c; revert t1_1n; revert t1_1a; revert t1_0; revert t0_cs; revert b1; revert Wc; have tS : Tk 14 := rfl; revert tS; exact k301)
   | (have _t : Tk 3 := tC; clear _t tC; (try clear HR_t0); (try clear HR_t1); revert HDd12; revert HDd02; revert HDd01; revert Ho0; revert Hz0; revert HOo2; revert HOo1; revert HOo0; revert HPP; revert hHeld; revert G; revert B9; revert S2; revert S1; revert S0; revert h2_c; revert h2_n; revert h2_a; revert h1_1c; revert h1_1n; revert h1_1a; revert h1_0; revert h0_cs; revert t1_1c; revert t1_1n; revert t1_1a; revert t1_0; revert t0_cs; revert Wc; have tS : Tk 11 := rfl; revert tS; exact k300)
  )))
  intro tS Wc b0 b1 t0_cs t1_0 t1_1a t1_1n t1_1c h0_cs h1_0 h1_1a h1_1n h1_1c h2_a h2_n h2_c S0 S1 S2 B9 G hHeld HM0 HB0 HM1 HB1 HN01 HPP HOo0 HOo1 HOo2 Hz0 Ho0 HDd01 HDd02 HDd12 HQ0 HQ1; clear tS
  refine rdy 12 (by kernel_rfl) rfl (fun K hK => ?_)
  refine zad 40 _ _ rfl rfl b0 rfl _ _ h0_cs rfl (zg HM0) (by rw [zg Hz0]; exact zq) (by rw [zg Hz0]; rfl) (zg Ho0) ?_
  intro Wc hb9 hf9
  replace HM1 := zi (hf9.kept (zg HM1) (fun e9 => zg HN01 e9.symm))
  replace HM0 := zi hb9
  replace HOo0 := zi (K0.ofr (zg HOo0) hf9 (fun g9 h9 e9 => (zg HQ0) g9 ((.inl h9)) e9))
  replace HOo1 := zi (K1.ofr (zg HOo1) hf9 (fun g9 h9 e9 => (zg HQ0) g9 (.inr ((.inl h9))) e9))
  replace HOo2 := zi (K2.ofr (zg HOo2) hf9 (fun g9 h9 e9 => (zg HQ0) g9 (.inr (.inr (h9))) e9))
  replace G := zi (hf9.ext (zg G) (fun q9 h9 => by have h1 := zg HB0; omega))
  replace HPP : Hid (∀ g, S0 g ∨ S1 g ∨ S2 g → w71.heap.size ≤ g ∧ g < Wc.heap.size) := zi (fun g9 h9 => by have h1 := (zg HPP) g9 h9; have h2 := hf9.size; omega)
  clear hb9 hf9 hHeld
  refine hK.out _ _ ⟨(zg G).kept (zg HB_p0), (zg G).kept (zg HB_p1)⟩ (fun hHeld => ?_)
  clear hK K
  refine rdy 13 (by kernel_rfl) rfl (fun K hK => ?_)
  refine zad 41 _ _ rfl rfl b1 rfl _ _ #[.int .i64 h1_0, .slice h1_1a h1_1n h1_1c] rfl (zg HM1) (by kernel_rfl) rfl (by simp [Value.oneCell']) ?_
  intro Wc hb9 hf9
  replace HM0 := zi (hf9.kept (zg HM0) (fun e9 => zg HN01 e9))
  replace HM1 := zi hb9
  replace HOo0 := zi (K0.ofr (zg HOo0) hf9 (fun g9 h9 e9 => (zg HQ1) g9 ((.inl h9)) e9))
  replace HOo1 := zi (K1.ofr (zg HOo1) hf9 (fun g9 h9 e9 => (zg HQ1) g9 (.inr ((.inl h9))) e9))
  replace HOo2 := zi (K2.ofr (zg HOo2) hf9 (fun g9 h9 e9 => (zg HQ1) g9 (.inr (.inr (h9))) e9))
  replace G := zi (hf9.ext (zg G) (fun q9 h9 => by have h1 := zg HB1; omega))
  replace HPP : Hid (∀ g, S0 g ∨ S1 g ∨ S2 g → w71.heap.size ≤ g ∧ g < Wc.heap.size) := zi (fun g9 h9 => by have h1 := (zg HPP) g9 h9; have h2 := hf9.size; omega)
  clear hb9 hf9 hHeld
  refine hK.out _ _ ⟨(zg G).kept (zg HB_p0), (zg G).kept (zg HB_p1)⟩ (fun hHeld => ?_)
  clear hK K
  refine tk 14 ?_ rfl (by kernel_rfl) (fun _ _ _ h => h) (by rfl) ?_ (by assumption) ?_
  rotate_left
  ·intro w' hSw; go_simp <;> with_reducible rfl
  simp only [Act.put, q9]
  refine tk 15 ?_ rfl (by kernel_rfl) (fun _ _ _ h => h) (by rfl) ?_ (by assumption) ?_
  rotate_left
  ·intro w' hSw; go_simp <;> with_reducible rfl
  simp only [Act.put, q9]
  refine wpAnyH_done (by kernel_rfl) ?_ _
  go_wp2
  go_meet
  exact ⟨_, _, _, _, _, _, _, _, _, _, _, _, _, _, _, _, rfl, rfl, rfl, rfl, HM0, zi (zg HB0).1, HM1, zi (zg HB1).1, HOo0, zi (fun g9 h9 => ⟨((zg HPP) g9 ((.inl h9))).1, ((zg HPP) g9 ((.inl h9))).2, (zg HQ0) g9 ((.inl h9)), (zg HQ1) g9 ((.inl h9))⟩), Hz0, Ho0, HOo1, zi (fun g9 h9 => ⟨((zg HPP) g9 (.inr ((.inl h9)))).1, ((zg HPP) g9 (.inr ((.inl h9)))).2, (zg HQ0) g9 (.inr ((.inl h9))), (zg HQ1) g9 (.inr ((.inl h9)))⟩), HOo2, zi (fun g9 h9 => ⟨((zg HPP) g9 (.inr (.inr (h9)))).1, ((zg HPP) g9 (.inr (.inr (h9)))).2, (zg HQ0) g9 (.inr (.inr (h9))), (zg HQ1) g9 (.inr (.inr (h9)))⟩), HDd01, HDd02, HDd12, HN01, G⟩
 case rest =>
 rename World => w74
 obtain ⟨bh0, bh1, h0_cs, h1_0, h1_1a, h1_1n, h1_1c, h2_a, h2_n, h2_c, Bh0, Sh0, Bh1, Sh1, Bh2, Sh2, rfl, rfl, rfl, rfl, HB_h0, HG_h0, HB_h1, HG_h1, HO_h0, HL_h0, Hz_h0_cs, Ho_h0_cs, HO_h1, HL_h1, HO_h2, HL_h2, HD_h0_h1, HD_h0_h2, HD_h1_h2, HN_0_1, HE9⟩ := hcut
 have hz_h0 := zi (zt (zg HB_h0))
 have hz_h1 := zi (zt (zg HB_h1))
 have hs75 := zi ((zg HE9)).size
 replace E := E.trans (zg HE9)
 replace HB_p0 := zi (((zg HE9)).kept (zg HB_p0))
 replace HB_p1 := zi (((zg HE9)).kept (zg HB_p1))
 replace HB_w0 := zi (((zg HE9)).kept (zg HB_w0))
 replace HB_w1 := zi (((zg HE9)).kept (zg HB_w1))
 replace HB_g0 := zi (((zg HE9)).kept (zg HB_g0))
 replace HB_g1 := zi (((zg HE9)).kept (zg HB_g1))
 replace HO_g0 := zi ((MK0 (1)).oext (zg HO_g0) (zg HE9))
 replace HO_g1 := zi ((MK1 (1 + (mK0 : Int))).oext (zg HO_g1) (zg HE9))
 replace HO_g2 := zi ((MK2 (1 + (mK0 : Int) + (mK1 : Int))).oext (zg HO_g2) (zg HE9))
 replace HEw := zi ((zg HEw).trans (zg HE9))
 clear HE9
 have c_h1_0 := zk (zg HB_h1) 0 _ rfl
 have c_h1_1 := zk (zg HB_h1) 1 _ rfl
 have c_w1_0 := zk (zg HB_w1) 0 _ rfl
 have c_w1_1 := zk (zg HB_w1) 1 _ rfl
 go_wp2_with (first | (refine zm rfl 40 _ rfl (bh0) rfl _ _ _ _ (zg HB_h0) Tryz.underlying40 rfl (by rw [zg Hz_h0_cs]; exact zq) ?_) | (refine zm rfl 40 _ rfl (bw0) rfl _ _ _ _ (zg HB_w0) Tryz.underlying40 rfl (by rw [zg Hz_w0_cs]; exact zq) ?_))
 clear c_h1_0 c_h1_1 c_w1_0 c_w1_1
 refine ((zg HEqK0) _ _ _ (K0.reads (zg HO_h0)) (K0.rext (zg HR_w0) (zg HEw))).mono ?_
 rintro e w76 ⟨rfl, F77⟩
 have hs78 := zi (F77).size
 replace E := E.trans F77
 replace HB_p0 := zi ((F77).kept (zg HB_p0))
 replace HB_p1 := zi ((F77).kept (zg HB_p1))
 replace HB_w0 := zi ((F77).kept (zg HB_w0))
 replace HB_w1 := zi ((F77).kept (zg HB_w1))
 replace HB_g0 := zi ((F77).kept (zg HB_g0))
 replace HB_g1 := zi ((F77).kept (zg HB_g1))
 replace HB_h0 := zi ((F77).kept (zg HB_h0))
 replace HB_h1 := zi ((F77).kept (zg HB_h1))
 replace HO_g0 := zi ((MK0 (1)).oext (zg HO_g0) F77)
 replace HO_g1 := zi ((MK1 (1 + (mK0 : Int))).oext (zg HO_g1) F77)
 replace HO_g2 := zi ((MK2 (1 + (mK0 : Int) + (mK1 : Int))).oext (zg HO_g2) F77)
 replace HO_h0 := zi (K0.oext (zg HO_h0) F77)
 replace HO_h1 := zi (K1.oext (zg HO_h1) F77)
 replace HO_h2 := zi (K2.oext (zg HO_h2) F77)
 replace HEw := Hid.ht HEw F77
 have c_h1_0 := zk (zg HB_h1) 0 _ rfl
 have c_h1_1 := zk (zg HB_h1) 1 _ rfl
 have c_w1_0 := zk (zg HB_w1) 0 _ rfl
 have c_w1_1 := zk (zg HB_w1) 1 _ rfl
 go_wp2_with (first | (refine zm rfl 40 _ rfl (bh0) rfl _ _ _ _ (zg HB_h0) Tryz.underlying40 rfl (by rw [zg Hz_h0_cs]; exact zq) ?_) | (refine zm rfl 40 _ rfl (bw0) rfl _ _ _ _ (zg HB_w0) Tryz.underlying40 rfl (by rw [zg Hz_w0_cs]; exact zq) ?_))
 clear c_h1_0 c_h1_1 c_w1_0 c_w1_1
 refine ((zg HEqK1) _ _ _ (K1.reads (zg HO_h1)) (K1.rext (zg HR_w1) (zg HEw))).mono ?_
 rintro e w79 ⟨rfl, F80⟩
 have hs81 := zi (F80).size
 replace E := E.trans F80
 replace HB_p0 := zi ((F80).kept (zg HB_p0))
 replace HB_p1 := zi ((F80).kept (zg HB_p1))
 replace HB_w0 := zi ((F80).kept (zg HB_w0))
 replace HB_w1 := zi ((F80).kept (zg HB_w1))
 replace HB_g0 := zi ((F80).kept (zg HB_g0))
 replace HB_g1 := zi ((F80).kept (zg HB_g1))
 replace HB_h0 := zi ((F80).kept (zg HB_h0))
 replace HB_h1 := zi ((F80).kept (zg HB_h1))
 replace HO_g0 := zi ((MK0 (1)).oext (zg HO_g0) F80)
 replace HO_g1 := zi ((MK1 (1 + (mK0 : Int))).oext (zg HO_g1) F80)
 replace HO_g2 := zi ((MK2 (1 + (mK0 : Int) + (mK1 : Int))).oext (zg HO_g2) F80)
 replace HO_h0 := zi (K0.oext (zg HO_h0) F80)
 replace HO_h1 := zi (K1.oext (zg HO_h1) F80)
 replace HO_h2 := zi (K2.oext (zg HO_h2) F80)
 replace HEw := Hid.ht HEw F80
 have c_h1_0 := zk (zg HB_h1) 0 _ rfl
 have c_h1_1 := zk (zg HB_h1) 1 _ rfl
 have c_w1_0 := zk (zg HB_w1) 0 _ rfl
 have c_w1_1 := zk (zg HB_w1) 1 _ rfl
 go_wp2_with (first | (refine zm rfl 40 _ rfl (bh0) rfl _ _ _ _ (zg HB_h0) Tryz.underlying40 rfl (by rw [zg Hz_h0_cs]; exact zq) ?_) | (refine zm rfl 40 _ rfl (bw0) rfl _ _ _ _ (zg HB_w0) Tryz.underlying40 rfl (by rw [zg Hz_w0_cs]; exact zq) ?_))
 clear c_h1_0 c_h1_1 c_w1_0 c_w1_1
 refine ((zg HEqK2) _ _ _ (K2.reads (zg HO_h2)) (K2.rext (zg HR_w2) (zg HEw))).mono ?_
 rintro e w82 ⟨rfl, F83⟩
 have hs84 := zi (F83).size
 replace E := E.trans F83
 replace HB_p0 := zi ((F83).kept (zg HB_p0))
 replace HB_p1 := zi ((F83).kept (zg HB_p1))
 replace HB_w0 := zi ((F83).kept (zg HB_w0))
 replace HB_w1 := zi ((F83).kept (zg HB_w1))
 replace HB_g0 := zi ((F83).kept (zg HB_g0))
 replace HB_g1 := zi ((F83).kept (zg HB_g1))
 replace HB_h0 := zi ((F83).kept (zg HB_h0))
 replace HB_h1 := zi ((F83).kept (zg HB_h1))
 replace HO_g0 := zi ((MK0 (1)).oext (zg HO_g0) F83)
 replace HO_g1 := zi ((MK1 (1 + (mK0 : Int))).oext (zg HO_g1) F83)
 replace HO_g2 := zi ((MK2 (1 + (mK0 : Int) + (mK1 : Int))).oext (zg HO_g2) F83)
 replace HO_h0 := zi (K0.oext (zg HO_h0) F83)
 replace HO_h1 := zi (K1.oext (zg HO_h1) F83)
 replace HO_h2 := zi (K2.oext (zg HO_h2) F83)
 replace HEw := Hid.ht HEw F83
 have hq0 : ¬ (1 + (mK0 : Int) : Int) < 0 := by omega
 go_wp2_with (refine zm rfl 40 _ rfl (w19.heap.size) rfl _ _ _ _ (zg HB_g0) Tryz.underlying40 rfl (by rw [zg Hz_g0_cs]; exact zq) ?_)
 refine ((zg HHdK0) _ _ _ ((MK0 (1)).reads (zg HO_g0)) (by omega) (by omega)).mono ?_
 rintro e w85 ⟨rfl, F86⟩
 have hs87 := zi (F86).size
 replace E := E.trans F86
 replace HB_p0 := zi ((F86).kept (zg HB_p0))
 replace HB_p1 := zi ((F86).kept (zg HB_p1))
 replace HB_w0 := zi ((F86).kept (zg HB_w0))
 replace HB_w1 := zi ((F86).kept (zg HB_w1))
 replace HB_g0 := zi ((F86).kept (zg HB_g0))
 replace HB_g1 := zi ((F86).kept (zg HB_g1))
 replace HB_h0 := zi ((F86).kept (zg HB_h0))
 replace HB_h1 := zi ((F86).kept (zg HB_h1))
 replace HO_g0 := zi ((MK0 (1)).oext (zg HO_g0) F86)
 replace HO_g1 := zi ((MK1 (1 + (mK0 : Int))).oext (zg HO_g1) F86)
 replace HO_g2 := zi ((MK2 (1 + (mK0 : Int) + (mK1 : Int))).oext (zg HO_g2) F86)
 replace HO_h0 := zi (K0.oext (zg HO_h0) F86)
 replace HO_h1 := zi (K1.oext (zg HO_h1) F86)
 replace HO_h2 := zi (K2.oext (zg HO_h2) F86)
 replace HEw := Hid.ht HEw F86
 have hq1 : ¬ (1 + (mK0 : Int) + (mK1 : Int) : Int) < 0 := by omega
 have c_g1_0 := zk (zg HB_g1) 0 _ rfl
 have c_g1_1 := zk (zg HB_g1) 1 _ rfl
 go_wp2_with fail
 clear c_g1_0 c_g1_1
 refine ((zg HHdK1) _ _ _ ((MK1 (1 + (mK0 : Int))).reads (zg HO_g1)) (by omega) (by omega)).mono ?_
 rintro e w88 ⟨rfl, F89⟩
 have hs90 := zi (F89).size
 replace E := E.trans F89
 replace HB_p0 := zi ((F89).kept (zg HB_p0))
 replace HB_p1 := zi ((F89).kept (zg HB_p1))
 replace HB_w0 := zi ((F89).kept (zg HB_w0))
 replace HB_w1 := zi ((F89).kept (zg HB_w1))
 replace HB_g0 := zi ((F89).kept (zg HB_g0))
 replace HB_g1 := zi ((F89).kept (zg HB_g1))
 replace HB_h0 := zi ((F89).kept (zg HB_h0))
 replace HB_h1 := zi ((F89).kept (zg HB_h1))
 replace HO_g0 := zi ((MK0 (1)).oext (zg HO_g0) F89)
 replace HO_g1 := zi ((MK1 (1 + (mK0 : Int))).oext (zg HO_g1) F89)
 replace HO_g2 := zi ((MK2 (1 + (mK0 : Int) + (mK1 : Int))).oext (zg HO_g2) F89)
 replace HO_h0 := zi (K0.oext (zg HO_h0) F89)
 replace HO_h1 := zi (K1.oext (zg HO_h1) F89)
 replace HO_h2 := zi (K2.oext (zg HO_h2) F89)
 replace HEw := Hid.ht HEw F89
 have hq2 : ¬ (1 + (mK0 : Int) + (mK1 : Int) + (mK2 : Int) : Int) < 0 := by omega
 go_wp2_with fail
 refine ((zg HHdK2) _ _ _ ((MK2 (1 + (mK0 : Int) + (mK1 : Int))).reads (zg HO_g2)) (by omega) (by omega)).mono ?_
 rintro e w91 ⟨rfl, F92⟩
 have hs93 := zi (F92).size
 replace E := E.trans F92
 replace HB_p0 := zi ((F92).kept (zg HB_p0))
 replace HB_p1 := zi ((F92).kept (zg HB_p1))
 replace HB_w0 := zi ((F92).kept (zg HB_w0))
 replace HB_w1 := zi ((F92).kept (zg HB_w1))
 replace HB_g0 := zi ((F92).kept (zg HB_g0))
 replace HB_g1 := zi ((F92).kept (zg HB_g1))
 replace HB_h0 := zi ((F92).kept (zg HB_h0))
 replace HB_h1 := zi ((F92).kept (zg HB_h1))
 replace HO_g0 := zi ((MK0 (1)).oext (zg HO_g0) F92)
 replace HO_g1 := zi ((MK1 (1 + (mK0 : Int))).oext (zg HO_g1) F92)
 replace HO_g2 := zi ((MK2 (1 + (mK0 : Int) + (mK1 : Int))).oext (zg HO_g2) F92)
 replace HO_h0 := zi (K0.oext (zg HO_h0) F92)
 replace HO_h1 := zi (K1.oext (zg HO_h1) F92)
 replace HO_h2 := zi (K2.oext (zg HO_h2) F92)
 replace HEw := Hid.ht HEw F92
 go_wp2
 go_ret
 exact ⟨rfl, E.below⟩
end Go.Proofs.YtmlkpdbfnffoaaaGreatDoor
