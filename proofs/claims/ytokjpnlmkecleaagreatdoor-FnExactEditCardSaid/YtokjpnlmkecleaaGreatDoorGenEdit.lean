import Derived.Test.YtokjpnlmkecleaaGreatDoorSpecRune2
import Derived.Deep.RegionLaw
import Derived.Deep.DeepCutAuto
import Derived.Deep.RegionHeld3
namespace Go.Proofs.YtokjpnlmkecleaaGreatDoor
open Go.RowKit

set_option linter.unusedSimpArgs false in
set_option maxRecDepth 10000 in
set_option maxHeartbeats 8000000 in
theorem law_Edit (p0_0 : ByteArray) (p0_1 : ByteArray) (p0_2 : ByteArray) (p0_3a : Option Addr) (p0_3n : Nat) (p0_3c : Nat) (p1_0 : Int) (p1_1a : Option Addr) (p1_1n : Nat) (p1_1c : Nat) (q1 : Int) (w : World)
    (X0 : Kd) (MX0 : Int → Kd) (mX0 : Nat)
    (X1 : Kd) (MX1 : Int → Kd) (mX1 : Nat)
    (K0 : Kd) (MK0 : Int → Kd) (mK0 : Nat)
    (Fit0 Fit1 : Prop)
    (HZ0 : Hid (∀ (W : World) (l : Int), Ext w W → 0 ≤ l → l ≤ 1048576 → Calls Tryz.prog 10 #[.agg #[.string p0_0, .string p0_1, .string p0_2, .slice p0_3a p0_3n p0_3c], .int .i64 l] W fun e w' => ∃ r : Int, e = .returned (.int .i64 r) ∧ r ≤ l ∧ (0 ≤ r → Fit0) ∧ Ext W w'))
    (HZ1 : Hid (∀ (W : World) (l : Int), Ext w W → 0 ≤ l → l ≤ 1048576 → Calls Tryz.prog 11 #[.agg #[.int .i64 p1_0, .slice p1_1a p1_1n p1_1c], .int .i64 l] W fun e w' => ∃ r : Int, e = .returned (.int .i64 r) ∧ r ≤ l ∧ (0 ≤ r → Fit1) ∧ Ext W w'))
    (HTo0' : Hid (Fit0 ∧ Fit1 → ∀ W, Ext w W → Calls Tryz.prog 12 #[.agg #[.string p0_0, .string p0_1, .string p0_2, .slice p0_3a p0_3n p0_3c]] W fun e w' => ∃ u S, e = .returned u ∧ X0.O w' W.heap.size S u ∧ Ext W w'))
    (ShX0 : Hid (∀ W u, X0.R W u → ∃ (x0 : ByteArray) (x1 : ByteArray) (x2 : ByteArray) (x3a : Option Addr) (x3n : Nat) (x3c : Nat), u = .agg #[.string x0, .string x1, .string x2, .slice x3a x3n x3c]))
    (HEqX0' : Hid (Fit0 ∧ Fit1 → EqOk 14 X0)) (HMkX0' : Hid (Fit0 ∧ Fit1 → MarkOk 16 X0 MX0 mX0 ∧ mX0 ≤ 17179869184))
    (HTo1' : Hid (Fit0 ∧ Fit1 → ∀ W, Ext w W → Calls Tryz.prog 13 #[.agg #[.int .i64 p1_0, .slice p1_1a p1_1n p1_1c]] W fun e w' => ∃ u S, e = .returned u ∧ X1.O w' W.heap.size S u ∧ Ext W w'))
    (ShX1 : Hid (∀ W u, X1.R W u → ∃ (x0 : Int) (x1a : Option Addr) (x1n : Nat) (x1c : Nat), u = .agg #[.int .i64 x0, .slice x1a x1n x1c]))
    (HEqX1' : Hid (Fit0 ∧ Fit1 → EqOk 15 X1)) (HMkX1' : Hid (Fit0 ∧ Fit1 → MarkOk 17 X1 MX1 mX1 ∧ mX1 ≤ 17179869184))
    (HS' : Hid (Fit0 ∧ Fit1 → ∀ (W : World) (u0 : Value) (u1 : Value), Ext w W → X0.R W u0 → X1.R W u1 → Calls Tryz.prog 9 #[u0, u1] W fun e w' => ∃ v0 S0, e = .returned (.tuple #[v0, .int .i64 q1]) ∧ K0.O w' W.heap.size S0 v0 ∧ Ext W w'))
    (HI' : Hid (Fit0 ∧ Fit1 → ∀ (W : World) (u0 : Value) (u1 : Value), Ext w W → X0.R W u0 → X1.R W u1 → Calls Tryz.prog 8 #[u0, u1] W fun e w' => ∃ v0 S0, e = .returned (.tuple #[v0, .int .i64 q1]) ∧ K0.O w' W.heap.size S0 v0 ∧ Ext W w'))
    (ShK0 : Hid (∀ W u, K0.R W u → ∃ (x0 : ByteArray) (x1 : ByteArray) (x2 : ByteArray) (x3a : Option Addr) (x3n : Nat) (x3c : Nat), u = .agg #[.string x0, .string x1, .string x2, .slice x3a x3n x3c]))
    (HEqK0' : Hid (Fit0 ∧ Fit1 → EqOk 14 K0)) (HMkK0' : Hid (Fit0 ∧ Fit1 → MarkOk 16 K0 MK0 mK0 ∧ mK0 ≤ 17179869184)) (HHdK0' : Hid (Fit0 ∧ Fit1 → HeldOk 18 MK0 mK0))
    : Calls Tryz.prog 4 #[.agg #[.string p0_0, .string p0_1, .string p0_2, .slice p0_3a p0_3n p0_3c], .agg #[.int .i64 p1_0, .slice p1_1a p1_1n p1_1c]] w fun e w' => e = .returned (.bool true) ∧ Below w.heap.size w w' := by
  go_enter Tryz.func4, Tryz.ntmps4
  go_wp2_with fail
  obtain ⟨W0, hW0⟩ : ∃ W0, W0 = ((w.alloc (.cells #[.string p0_0, .string p0_1, .string p0_2, .slice p0_3a p0_3n p0_3c] 37)).alloc (.cells #[.int .i64 p1_0, .slice p1_1a p1_1n p1_1c] 38)) := ⟨_, rfl⟩
  rw [← hW0]
  have E : Ext w W0 := by rw [hW0]; exact (((Ext.refl w).alloc _).alloc _)
  have HB_p0 : Hid (W0.heap[w.heap.size]? = some (.cells #[.string p0_0, .string p0_1, .string p0_2, .slice p0_3a p0_3n p0_3c] 37 (0, 0))) := hide (by rw [hW0]; have h := new_block w (.cells #[.string p0_0, .string p0_1, .string p0_2, .slice p0_3a p0_3n p0_3c] 37); exact ((Ext.refl _).alloc _).kept h)
  have HB_p1 : Hid (W0.heap[w.heap.size + 1]? = some (.cells #[.int .i64 p1_0, .slice p1_1a p1_1n p1_1c] 38 (0, 0))) := hide (by rw [hW0]; have h := new_block (w.alloc (.cells #[.string p0_0, .string p0_1, .string p0_2, .slice p0_3a p0_3n p0_3c] 37)) (.cells #[.int .i64 p1_0, .slice p1_1a p1_1n p1_1c] 38); rw [show ((w.alloc (.cells #[.string p0_0, .string p0_1, .string p0_2, .slice p0_3a p0_3n p0_3c] 37))).heap.size = w.heap.size + 1 by simp] at h; exact (Ext.refl _).kept h)
  have hzW0 := hide (lt_of_block (unhide HB_p1))
  clear hW0
  have hp0 : (0 : Int) ≤ 1048576 := by omega
  have hq0 : (1048576 : Int) ≤ 1048576 := by omega
  refine ((unhide HZ0) _ _ E hp0 hq0).mono ?_
  rintro e w1 ⟨r0, rfl, hle0, hr0, F2⟩
  have hs3 := hide (F2).size
  replace E := E.trans F2
  replace HB_p0 := hide ((F2).kept (unhide HB_p0))
  replace HB_p1 := hide ((F2).kept (unhide HB_p1))
  by_cases hn0 : r0 < 0
  · go_wp2
    go_ret
    exact ⟨rfl, E.below⟩
  have hp1 : 0 ≤ r0 := by omega
  have hq1 : r0 ≤ 1048576 := by omega
  have hfit0 : Fit0 := hr0 hp1
  clear hr0 HZ0
  have c_p1_0 : w1.cell? ⟨w.heap.size + 1, 0, none⟩ = some (.int .i64 p1_0) := cells_of (unhide HB_p1) 0 _ rfl
  have c_p1_1 : w1.cell? ⟨w.heap.size + 1, 1, none⟩ = some (.slice p1_1a p1_1n p1_1c) := cells_of (unhide HB_p1) 1 _ rfl
  go_wp2_with fail
  clear c_p1_0 c_p1_1
  refine ((unhide HZ1) _ _ E hp1 hq1).mono ?_
  rintro e w4 ⟨r1, rfl, hle1, hr1, F5⟩
  have hs6 := hide (F5).size
  replace E := E.trans F5
  replace HB_p0 := hide ((F5).kept (unhide HB_p0))
  replace HB_p1 := hide ((F5).kept (unhide HB_p1))
  by_cases hn1 : r1 < 0
  · go_wp2
    go_ret
    exact ⟨rfl, E.below⟩
  have hp2 : 0 ≤ r1 := by omega
  have hq2 : r1 ≤ 1048576 := by omega
  have hfit1 : Fit1 := hr1 hp2
  clear hr1 HZ1
  have hfit := And.intro hfit0 hfit1
  clear hfit0 hfit1
  clear hp0 hq0 hp1 hq1 hp2 hq2 hle0 hle1
  have HTo0 := hide ((unhide HTo0') hfit)
  have HEqX0 := hide ((unhide HEqX0') hfit)
  have HMkX0 := hide ((unhide HMkX0') hfit).1
  have hmX0 := ((unhide HMkX0') hfit).2
  clear HMkX0'
  clear HTo0' HEqX0'
  have HTo1 := hide ((unhide HTo1') hfit)
  have HEqX1 := hide ((unhide HEqX1') hfit)
  have HMkX1 := hide ((unhide HMkX1') hfit).1
  have hmX1 := ((unhide HMkX1') hfit).2
  clear HMkX1'
  clear HTo1' HEqX1'
  have HEqK0 := hide ((unhide HEqK0') hfit)
  have HMkK0 := hide ((unhide HMkK0') hfit).1
  have hmK0 := ((unhide HMkK0') hfit).2
  have HHdK0 := hide ((unhide HHdK0') hfit)
  clear HEqK0' HMkK0' HHdK0'
  have HS := hide ((unhide HS') hfit)
  have HI := hide ((unhide HI') hfit)
  clear HS' HI' hfit
  go_upto_region 8 with fail
  go_cut [6, 7] (fun v0 v1 wq => ∃ (bw0 : Nat) (w0_0 : ByteArray) (w0_1 : ByteArray) (w0_2 : ByteArray) (w0_3a : Option Addr) (w0_3n : Nat) (w0_3c : Nat) (Bw0 : Nat) (Sw0 : Nat → Prop), v0 = .pointer (some ⟨bw0, 0, none⟩) ∧ v1 = .int .i64 q1 ∧ Hid (wq.heap[bw0]? = some (.cells #[.string w0_0, .string w0_1, .string w0_2, .slice w0_3a w0_3n w0_3c] 25 (0, 0))) ∧ Hid (w4.heap.size ≤ bw0) ∧ Hid (K0.O wq Bw0 Sw0 (.agg #[.string w0_0, .string w0_1, .string w0_2, .slice w0_3a w0_3n w0_3c])) ∧ Hid (∀ g, Sw0 g → w4.heap.size ≤ g ∧ g < wq.heap.size ∧ g ≠ bw0) ∧ Hid (Ext w4 wq))
  case first =>
    refine wp_region_held_drew (S := fun W => W.heap[w.heap.size]? = some (.cells #[.string p0_0, .string p0_1, .string p0_2, .slice p0_3a p0_3n p0_3c] 37 (0, 0)) ∧ W.heap[w.heap.size + 1]? = some (.cells #[.int .i64 p1_0, .slice p1_1a p1_1n p1_1c] 38 (0, 0))) (by kernel_rfl) (⟨unhide HB_p0, unhide HB_p1⟩) (fun hHeld => ?_)
    refine wpAnyH_take (i := 0) (v := .agg #[.string p0_0, .string p0_1, .string p0_2, .slice p0_3a p0_3n p0_3c]) rfl (by kernel_rfl) (by kernel_rfl) (by kernel_rfl) (fun _ _ _ h => h) (Or.inl ⟨by rfl, ?_⟩) (by assumption) ?_
    · intro w' hSw; exact yields_load_blk 37 _ rfl (w.heap.size) rfl _ _ _ _ (hSw.1) Tryz.underlying37 rfl (by kernel_rfl)
    simp only [Act.put, List.getElem_toArray, List.getElem_cons_succ, List.getElem_cons_zero, List.setIfInBounds_toArray, List.set_cons_zero, List.set_cons_succ]
    refine wpAnyH_take (i := 2) (v := .agg #[.int .i64 p1_0, .slice p1_1a p1_1n p1_1c]) rfl (by kernel_rfl) (by kernel_rfl) (by kernel_rfl) (fun _ _ _ h => h) (Or.inl ⟨by rfl, ?_⟩) (by assumption) ?_
    · intro w' hSw; exact yields_load_blk 38 _ rfl (w.heap.size + 1) rfl _ _ _ _ (hSw.2) Tryz.underlying38 rfl (by kernel_rfl)
    simp only [Act.put, List.getElem_toArray, List.getElem_cons_succ, List.getElem_cons_zero, List.setIfInBounds_toArray, List.set_cons_zero, List.set_cons_succ]
    have G := hide ((Ext.refl w4).drew)
    generalize w4.drew = Wr0 at *
    refine wpAnyH_ready (rs := [1, 8]) (by kernel_rfl) (by simp) ?_
    refine (AllReadyH.cons rfl (fun K hK => ?_) (AllReadyH.cons rfl (fun K hK => ?_) AllReadyH.nil))
    · go_simp
      refine ((unhide HTo0) _ (E.trans (unhide G))).mono ?_; rintro e Wr1 ⟨u9, S9, rfl, o9, f9⟩; have HR_t0 := hide (X0.reads o9); obtain ⟨t0_0, t0_1, t0_2, t0_3a, t0_3n, t0_3c, rfl⟩ := (unhide ShX0) _ _ (unhide HR_t0); replace G := hide ((unhide G).trans f9); clear o9 f9
      clear hHeld
      refine hK.out _ _ ⟨(unhide G).kept (unhide HB_p0), (unhide G).kept (unhide HB_p1)⟩ (fun hHeld => ?_)
      clear hK K
      refine wpAnyH_ready (rs := [3, 8]) (by kernel_rfl) (by simp) ?_
      refine (AllReadyH.cons rfl (fun K hK => ?_) (AllReadyH.cons rfl (fun K hK => ?_) AllReadyH.nil))
      · go_simp
        refine ((unhide HTo1) _ (E.trans (unhide G))).mono ?_; rintro e Wr2 ⟨u9, S9, rfl, o9, f9⟩; replace HR_t0 := hide (X0.rext (unhide HR_t0) f9); have HR_t1 := hide (X1.reads o9); obtain ⟨t1_0, t1_1a, t1_1n, t1_1c, rfl⟩ := (unhide ShX1) _ _ (unhide HR_t1); replace G := hide ((unhide G).trans f9); clear o9 f9
        clear hHeld
        refine hK.out _ _ ⟨(unhide G).kept (unhide HB_p0), (unhide G).kept (unhide HB_p1)⟩ (fun hHeld => ?_)
        clear hK K
        refine wpAnyH_ready (rs := [4, 8]) (by kernel_rfl) (by simp) ?_
        refine (AllReadyH.cons rfl (fun K hK => ?_) (AllReadyH.cons rfl (fun K hK => ?_) AllReadyH.nil))
        · go_simp
          refine ((unhide HS) _ _ _ (E.trans (unhide G)) (unhide HR_t0) (unhide HR_t1)).mono ?_; rintro e Wr3 ⟨u0, S0, rfl, o0, f9⟩; obtain ⟨w0_0, w0_1, w0_2, w0_3a, w0_3n, w0_3c, rfl⟩ := (unhide ShK0) _ _ (K0.reads o0); have HP0 : Hid (∀ g, S0 g → w4.heap.size ≤ g ∧ g < Wr3.heap.size) := hide (fun g9 h9 => by have h1 := K0.lt o0 g9 h9; have h2 := (unhide G).size; omega); have HOo0 := hide o0; replace G := hide ((unhide G).trans f9); clear f9 o0
          clear hHeld
          refine hK.out _ _ ⟨(unhide G).kept (unhide HB_p0), (unhide G).kept (unhide HB_p1)⟩ (fun hHeld => ?_)
          clear hK K
          refine wpAnyH_take (i := 5) (v := ?_) rfl (by kernel_rfl) (by kernel_rfl) (by kernel_rfl) (fun _ _ _ h => h) (Or.inl ⟨by rfl, ?_⟩) (by assumption) ?_
          rotate_left
          · intro w' hSw; go_simp <;> with_reducible rfl
          simp only [Act.put, List.getElem_toArray, List.getElem_cons_succ, List.getElem_cons_zero, List.setIfInBounds_toArray, List.set_cons_zero, List.set_cons_succ]
          refine wpAnyH_take (i := 6) (v := ?_) rfl (by kernel_rfl) (by kernel_rfl) (by kernel_rfl) (fun _ _ _ h => h) (Or.inl ⟨by rfl, ?_⟩) (by assumption) ?_
          rotate_left
          · intro w' hSw; go_simp <;> with_reducible rfl
          simp only [Act.put, List.getElem_toArray, List.getElem_cons_succ, List.getElem_cons_zero, List.setIfInBounds_toArray, List.set_cons_zero, List.set_cons_succ]
          refine wpAnyH_take (i := 7) (v := ?_) rfl (by kernel_rfl) (by kernel_rfl) (by kernel_rfl) (fun _ _ _ h => h) (Or.inl ⟨by rfl, ?_⟩) (by assumption) ?_
          rotate_left
          · intro w' hSw; go_simp <;> with_reducible rfl
          simp only [Act.put, List.getElem_toArray, List.getElem_cons_succ, List.getElem_cons_zero, List.setIfInBounds_toArray, List.set_cons_zero, List.set_cons_succ]
          refine wpAnyH_ready (rs := [8]) (by kernel_rfl) (by simp) ?_
          refine (AllReadyH.cons rfl (fun K hK => ?_) AllReadyH.nil)
          go_simp
          have n9 := new_block Wr3 (.cells #[.string { data := #[] }, .string { data := #[] }, .string { data := #[] }, .slice none 0 0] 25)
          have f9 := (Ext.refl Wr3).alloc (.cells #[.string { data := #[] }, .string { data := #[] }, .string { data := #[] }, .slice none 0 0] 25)
          generalize Wr3.alloc (.cells #[.string { data := #[] }, .string { data := #[] }, .string { data := #[] }, .slice none 0 0] 25) = Wr4 at n9 f9 ⊢
          have HM_0 := hide n9
          replace HP0 : Hid (∀ g, S0 g → w4.heap.size ≤ g ∧ g < Wr4.heap.size ∧ g ≠ Wr3.heap.size) := hide (fun g9 h9 => by have h1 := (unhide HP0) g9 h9; have h2 := f9.size; omega)
          replace HOo0 := hide (K0.oext (unhide HOo0) f9)
          have LG_0 : Hid (w4.heap.size ≤ Wr3.heap.size) := hide (unhide G).size
          replace G := hide ((unhide G).trans f9)
          clear n9 f9
          clear hHeld
          refine hK.out _ _ ⟨(unhide G).kept (unhide HB_p0), (unhide G).kept (unhide HB_p1)⟩ (fun hHeld => ?_)
          clear hK K
          refine wpAnyH_ready (rs := [9]) (by kernel_rfl) (by simp) ?_
          refine AllReadyH.cons rfl (fun K hK => ?_) AllReadyH.nil
          refine wp_store_blk 25 _ _ rfl rfl (Wr3.heap.size) rfl _ _ #[.string w0_0, .string w0_1, .string w0_2, .slice w0_3a w0_3n w0_3c] rfl (unhide HM_0) (by kernel_rfl) rfl (by simp [Value.oneCell']) ?_
          intro Wr5 hb9 hf9
          replace HM_0 := hide hb9
          replace HOo0 := hide (K0.ofr (unhide HOo0) hf9 (fun g9 h9 e9 => by have h1 := (unhide HP0) g9 h9; omega))
          replace G := hide (hf9.ext (unhide G) (fun q9 h9 => by have h1 := unhide LG_0; omega))
          replace HP0 : Hid (∀ g, S0 g → w4.heap.size ≤ g ∧ g < Wr5.heap.size ∧ g ≠ Wr3.heap.size) := hide (fun g9 h9 => by have h1 := (unhide HP0) g9 h9; have h2 := hf9.size; omega)
          clear hb9 hf9
          clear hHeld
          refine hK.out _ _ ⟨(unhide G).kept (unhide HB_p0), (unhide G).kept (unhide HB_p1)⟩ (fun hHeld => ?_)
          clear hK K
          refine wpAnyH_take (i := 10) (v := ?_) rfl (by kernel_rfl) (by kernel_rfl) (by kernel_rfl) (fun _ _ _ h => h) (Or.inl ⟨by rfl, ?_⟩) (by assumption) ?_
          rotate_left
          · intro w' hSw; go_simp <;> with_reducible rfl
          simp only [Act.put, List.getElem_toArray, List.getElem_cons_succ, List.getElem_cons_zero, List.setIfInBounds_toArray, List.set_cons_zero, List.set_cons_succ]
          refine wpAnyH_done (by kernel_rfl) ?_ _
          go_wp2
          go_meet
          exact ⟨_, _, _, _, _, _, _, _, _, rfl, rfl, HM_0, LG_0, HOo0, HP0, G⟩
        · go_simp
          have n9 := new_block Wr2 (.cells #[.string { data := #[] }, .string { data := #[] }, .string { data := #[] }, .slice none 0 0] 25)
          have f9 := (Ext.refl Wr2).alloc (.cells #[.string { data := #[] }, .string { data := #[] }, .string { data := #[] }, .slice none 0 0] 25)
          generalize Wr2.alloc (.cells #[.string { data := #[] }, .string { data := #[] }, .string { data := #[] }, .slice none 0 0] 25) = Wr6 at n9 f9 ⊢
          have HM_0 := hide n9
          replace HR_t0 := hide (X0.rext (unhide HR_t0) f9)
          replace HR_t1 := hide (X1.rext (unhide HR_t1) f9)
          have LG_0 : Hid (w4.heap.size ≤ Wr2.heap.size) := hide (unhide G).size
          replace G := hide ((unhide G).trans f9)
          clear n9 f9
          clear hHeld
          refine hK.out _ _ ⟨(unhide G).kept (unhide HB_p0), (unhide G).kept (unhide HB_p1)⟩ (fun hHeld => ?_)
          clear hK K
          refine wpAnyH_ready (rs := [4]) (by kernel_rfl) (by simp) ?_
          refine (AllReadyH.cons rfl (fun K hK => ?_) AllReadyH.nil)
          go_simp
          refine ((unhide HS) _ _ _ (E.trans (unhide G)) (unhide HR_t0) (unhide HR_t1)).mono ?_; rintro e Wr7 ⟨u0, S0, rfl, o0, f9⟩; obtain ⟨w0_0, w0_1, w0_2, w0_3a, w0_3n, w0_3c, rfl⟩ := (unhide ShK0) _ _ (K0.reads o0); have HP0 : Hid (∀ g, S0 g → w4.heap.size ≤ g ∧ g < Wr7.heap.size ∧ g ≠ Wr2.heap.size) := hide (fun g9 h9 => by have h1 := K0.lt o0 g9 h9; have h2 := (unhide G).size; have m0 := lt_of_block (unhide HM_0); omega); have HOo0 := hide o0; replace HM_0 := hide (f9.kept (unhide HM_0)); replace G := hide ((unhide G).trans f9); clear f9 o0
          clear hHeld
          refine hK.out _ _ ⟨(unhide G).kept (unhide HB_p0), (unhide G).kept (unhide HB_p1)⟩ (fun hHeld => ?_)
          clear hK K
          refine wpAnyH_take (i := 5) (v := ?_) rfl (by kernel_rfl) (by kernel_rfl) (by kernel_rfl) (fun _ _ _ h => h) (Or.inl ⟨by rfl, ?_⟩) (by assumption) ?_
          rotate_left
          · intro w' hSw; go_simp <;> with_reducible rfl
          simp only [Act.put, List.getElem_toArray, List.getElem_cons_succ, List.getElem_cons_zero, List.setIfInBounds_toArray, List.set_cons_zero, List.set_cons_succ]
          refine wpAnyH_take (i := 6) (v := ?_) rfl (by kernel_rfl) (by kernel_rfl) (by kernel_rfl) (fun _ _ _ h => h) (Or.inl ⟨by rfl, ?_⟩) (by assumption) ?_
          rotate_left
          · intro w' hSw; go_simp <;> with_reducible rfl
          simp only [Act.put, List.getElem_toArray, List.getElem_cons_succ, List.getElem_cons_zero, List.setIfInBounds_toArray, List.set_cons_zero, List.set_cons_succ]
          refine wpAnyH_take (i := 7) (v := ?_) rfl (by kernel_rfl) (by kernel_rfl) (by kernel_rfl) (fun _ _ _ h => h) (Or.inl ⟨by rfl, ?_⟩) (by assumption) ?_
          rotate_left
          · intro w' hSw; go_simp <;> with_reducible rfl
          simp only [Act.put, List.getElem_toArray, List.getElem_cons_succ, List.getElem_cons_zero, List.setIfInBounds_toArray, List.set_cons_zero, List.set_cons_succ]
          refine wpAnyH_ready (rs := [9]) (by kernel_rfl) (by simp) ?_
          refine AllReadyH.cons rfl (fun K hK => ?_) AllReadyH.nil
          refine wp_store_blk 25 _ _ rfl rfl (Wr2.heap.size) rfl _ _ #[.string w0_0, .string w0_1, .string w0_2, .slice w0_3a w0_3n w0_3c] rfl (unhide HM_0) (by kernel_rfl) rfl (by simp [Value.oneCell']) ?_
          intro Wr8 hb9 hf9
          replace HM_0 := hide hb9
          replace HOo0 := hide (K0.ofr (unhide HOo0) hf9 (fun g9 h9 e9 => by have h1 := (unhide HP0) g9 h9; omega))
          replace G := hide (hf9.ext (unhide G) (fun q9 h9 => by have h1 := unhide LG_0; omega))
          replace HP0 : Hid (∀ g, S0 g → w4.heap.size ≤ g ∧ g < Wr8.heap.size ∧ g ≠ Wr2.heap.size) := hide (fun g9 h9 => by have h1 := (unhide HP0) g9 h9; have h2 := hf9.size; omega)
          clear hb9 hf9
          clear hHeld
          refine hK.out _ _ ⟨(unhide G).kept (unhide HB_p0), (unhide G).kept (unhide HB_p1)⟩ (fun hHeld => ?_)
          clear hK K
          refine wpAnyH_take (i := 10) (v := ?_) rfl (by kernel_rfl) (by kernel_rfl) (by kernel_rfl) (fun _ _ _ h => h) (Or.inl ⟨by rfl, ?_⟩) (by assumption) ?_
          rotate_left
          · intro w' hSw; go_simp <;> with_reducible rfl
          simp only [Act.put, List.getElem_toArray, List.getElem_cons_succ, List.getElem_cons_zero, List.setIfInBounds_toArray, List.set_cons_zero, List.set_cons_succ]
          refine wpAnyH_done (by kernel_rfl) ?_ _
          go_wp2
          go_meet
          exact ⟨_, _, _, _, _, _, _, _, _, rfl, rfl, HM_0, LG_0, HOo0, HP0, G⟩
      · go_simp
        have n9 := new_block Wr1 (.cells #[.string { data := #[] }, .string { data := #[] }, .string { data := #[] }, .slice none 0 0] 25)
        have f9 := (Ext.refl Wr1).alloc (.cells #[.string { data := #[] }, .string { data := #[] }, .string { data := #[] }, .slice none 0 0] 25)
        generalize Wr1.alloc (.cells #[.string { data := #[] }, .string { data := #[] }, .string { data := #[] }, .slice none 0 0] 25) = Wr9 at n9 f9 ⊢
        have HM_0 := hide n9
        replace HR_t0 := hide (X0.rext (unhide HR_t0) f9)
        have LG_0 : Hid (w4.heap.size ≤ Wr1.heap.size) := hide (unhide G).size
        replace G := hide ((unhide G).trans f9)
        clear n9 f9
        clear hHeld
        refine hK.out _ _ ⟨(unhide G).kept (unhide HB_p0), (unhide G).kept (unhide HB_p1)⟩ (fun hHeld => ?_)
        clear hK K
        refine wpAnyH_ready (rs := [3]) (by kernel_rfl) (by simp) ?_
        refine (AllReadyH.cons rfl (fun K hK => ?_) AllReadyH.nil)
        go_simp
        refine ((unhide HTo1) _ (E.trans (unhide G))).mono ?_; rintro e Wr10 ⟨u9, S9, rfl, o9, f9⟩; replace HM_0 := hide (f9.kept (unhide HM_0)); replace HR_t0 := hide (X0.rext (unhide HR_t0) f9); have HR_t1 := hide (X1.reads o9); obtain ⟨t1_0, t1_1a, t1_1n, t1_1c, rfl⟩ := (unhide ShX1) _ _ (unhide HR_t1); replace G := hide ((unhide G).trans f9); clear o9 f9
        clear hHeld
        refine hK.out _ _ ⟨(unhide G).kept (unhide HB_p0), (unhide G).kept (unhide HB_p1)⟩ (fun hHeld => ?_)
        clear hK K
        refine wpAnyH_ready (rs := [4]) (by kernel_rfl) (by simp) ?_
        refine (AllReadyH.cons rfl (fun K hK => ?_) AllReadyH.nil)
        go_simp
        refine ((unhide HS) _ _ _ (E.trans (unhide G)) (unhide HR_t0) (unhide HR_t1)).mono ?_; rintro e Wr11 ⟨u0, S0, rfl, o0, f9⟩; obtain ⟨w0_0, w0_1, w0_2, w0_3a, w0_3n, w0_3c, rfl⟩ := (unhide ShK0) _ _ (K0.reads o0); have HP0 : Hid (∀ g, S0 g → w4.heap.size ≤ g ∧ g < Wr11.heap.size ∧ g ≠ Wr1.heap.size) := hide (fun g9 h9 => by have h1 := K0.lt o0 g9 h9; have h2 := (unhide G).size; have m0 := lt_of_block (unhide HM_0); omega); have HOo0 := hide o0; replace HM_0 := hide (f9.kept (unhide HM_0)); replace G := hide ((unhide G).trans f9); clear f9 o0
        clear hHeld
        refine hK.out _ _ ⟨(unhide G).kept (unhide HB_p0), (unhide G).kept (unhide HB_p1)⟩ (fun hHeld => ?_)
        clear hK K
        refine wpAnyH_take (i := 5) (v := ?_) rfl (by kernel_rfl) (by kernel_rfl) (by kernel_rfl) (fun _ _ _ h => h) (Or.inl ⟨by rfl, ?_⟩) (by assumption) ?_
        rotate_left
        · intro w' hSw; go_simp <;> with_reducible rfl
        simp only [Act.put, List.getElem_toArray, List.getElem_cons_succ, List.getElem_cons_zero, List.setIfInBounds_toArray, List.set_cons_zero, List.set_cons_succ]
        refine wpAnyH_take (i := 6) (v := ?_) rfl (by kernel_rfl) (by kernel_rfl) (by kernel_rfl) (fun _ _ _ h => h) (Or.inl ⟨by rfl, ?_⟩) (by assumption) ?_
        rotate_left
        · intro w' hSw; go_simp <;> with_reducible rfl
        simp only [Act.put, List.getElem_toArray, List.getElem_cons_succ, List.getElem_cons_zero, List.setIfInBounds_toArray, List.set_cons_zero, List.set_cons_succ]
        refine wpAnyH_take (i := 7) (v := ?_) rfl (by kernel_rfl) (by kernel_rfl) (by kernel_rfl) (fun _ _ _ h => h) (Or.inl ⟨by rfl, ?_⟩) (by assumption) ?_
        rotate_left
        · intro w' hSw; go_simp <;> with_reducible rfl
        simp only [Act.put, List.getElem_toArray, List.getElem_cons_succ, List.getElem_cons_zero, List.setIfInBounds_toArray, List.set_cons_zero, List.set_cons_succ]
        refine wpAnyH_ready (rs := [9]) (by kernel_rfl) (by simp) ?_
        refine AllReadyH.cons rfl (fun K hK => ?_) AllReadyH.nil
        refine wp_store_blk 25 _ _ rfl rfl (Wr1.heap.size) rfl _ _ #[.string w0_0, .string w0_1, .string w0_2, .slice w0_3a w0_3n w0_3c] rfl (unhide HM_0) (by kernel_rfl) rfl (by simp [Value.oneCell']) ?_
        intro Wr12 hb9 hf9
        replace HM_0 := hide hb9
        replace HOo0 := hide (K0.ofr (unhide HOo0) hf9 (fun g9 h9 e9 => by have h1 := (unhide HP0) g9 h9; omega))
        replace G := hide (hf9.ext (unhide G) (fun q9 h9 => by have h1 := unhide LG_0; omega))
        replace HP0 : Hid (∀ g, S0 g → w4.heap.size ≤ g ∧ g < Wr12.heap.size ∧ g ≠ Wr1.heap.size) := hide (fun g9 h9 => by have h1 := (unhide HP0) g9 h9; have h2 := hf9.size; omega)
        clear hb9 hf9
        clear hHeld
        refine hK.out _ _ ⟨(unhide G).kept (unhide HB_p0), (unhide G).kept (unhide HB_p1)⟩ (fun hHeld => ?_)
        clear hK K
        refine wpAnyH_take (i := 10) (v := ?_) rfl (by kernel_rfl) (by kernel_rfl) (by kernel_rfl) (fun _ _ _ h => h) (Or.inl ⟨by rfl, ?_⟩) (by assumption) ?_
        rotate_left
        · intro w' hSw; go_simp <;> with_reducible rfl
        simp only [Act.put, List.getElem_toArray, List.getElem_cons_succ, List.getElem_cons_zero, List.setIfInBounds_toArray, List.set_cons_zero, List.set_cons_succ]
        refine wpAnyH_done (by kernel_rfl) ?_ _
        go_wp2
        go_meet
        exact ⟨_, _, _, _, _, _, _, _, _, rfl, rfl, HM_0, LG_0, HOo0, HP0, G⟩
    · go_simp
      have n9 := new_block Wr0 (.cells #[.string { data := #[] }, .string { data := #[] }, .string { data := #[] }, .slice none 0 0] 25)
      have f9 := (Ext.refl Wr0).alloc (.cells #[.string { data := #[] }, .string { data := #[] }, .string { data := #[] }, .slice none 0 0] 25)
      generalize Wr0.alloc (.cells #[.string { data := #[] }, .string { data := #[] }, .string { data := #[] }, .slice none 0 0] 25) = Wr13 at n9 f9 ⊢
      have HM_0 := hide n9
      have LG_0 : Hid (w4.heap.size ≤ Wr0.heap.size) := hide (unhide G).size
      replace G := hide ((unhide G).trans f9)
      clear n9 f9
      clear hHeld
      refine hK.out _ _ ⟨(unhide G).kept (unhide HB_p0), (unhide G).kept (unhide HB_p1)⟩ (fun hHeld => ?_)
      clear hK K
      refine wpAnyH_ready (rs := [1]) (by kernel_rfl) (by simp) ?_
      refine (AllReadyH.cons rfl (fun K hK => ?_) AllReadyH.nil)
      go_simp
      refine ((unhide HTo0) _ (E.trans (unhide G))).mono ?_; rintro e Wr14 ⟨u9, S9, rfl, o9, f9⟩; replace HM_0 := hide (f9.kept (unhide HM_0)); have HR_t0 := hide (X0.reads o9); obtain ⟨t0_0, t0_1, t0_2, t0_3a, t0_3n, t0_3c, rfl⟩ := (unhide ShX0) _ _ (unhide HR_t0); replace G := hide ((unhide G).trans f9); clear o9 f9
      clear hHeld
      refine hK.out _ _ ⟨(unhide G).kept (unhide HB_p0), (unhide G).kept (unhide HB_p1)⟩ (fun hHeld => ?_)
      clear hK K
      refine wpAnyH_ready (rs := [3]) (by kernel_rfl) (by simp) ?_
      refine (AllReadyH.cons rfl (fun K hK => ?_) AllReadyH.nil)
      go_simp
      refine ((unhide HTo1) _ (E.trans (unhide G))).mono ?_; rintro e Wr15 ⟨u9, S9, rfl, o9, f9⟩; replace HM_0 := hide (f9.kept (unhide HM_0)); replace HR_t0 := hide (X0.rext (unhide HR_t0) f9); have HR_t1 := hide (X1.reads o9); obtain ⟨t1_0, t1_1a, t1_1n, t1_1c, rfl⟩ := (unhide ShX1) _ _ (unhide HR_t1); replace G := hide ((unhide G).trans f9); clear o9 f9
      clear hHeld
      refine hK.out _ _ ⟨(unhide G).kept (unhide HB_p0), (unhide G).kept (unhide HB_p1)⟩ (fun hHeld => ?_)
      clear hK K
      refine wpAnyH_ready (rs := [4]) (by kernel_rfl) (by simp) ?_
      refine (AllReadyH.cons rfl (fun K hK => ?_) AllReadyH.nil)
      go_simp
      refine ((unhide HS) _ _ _ (E.trans (unhide G)) (unhide HR_t0) (unhide HR_t1)).mono ?_; rintro e Wr16 ⟨u0, S0, rfl, o0, f9⟩; obtain ⟨w0_0, w0_1, w0_2, w0_3a, w0_3n, w0_3c, rfl⟩ := (unhide ShK0) _ _ (K0.reads o0); have HP0 : Hid (∀ g, S0 g → w4.heap.size ≤ g ∧ g < Wr16.heap.size ∧ g ≠ Wr0.heap.size) := hide (fun g9 h9 => by have h1 := K0.lt o0 g9 h9; have h2 := (unhide G).size; have m0 := lt_of_block (unhide HM_0); omega); have HOo0 := hide o0; replace HM_0 := hide (f9.kept (unhide HM_0)); replace G := hide ((unhide G).trans f9); clear f9 o0
      clear hHeld
      refine hK.out _ _ ⟨(unhide G).kept (unhide HB_p0), (unhide G).kept (unhide HB_p1)⟩ (fun hHeld => ?_)
      clear hK K
      refine wpAnyH_take (i := 5) (v := ?_) rfl (by kernel_rfl) (by kernel_rfl) (by kernel_rfl) (fun _ _ _ h => h) (Or.inl ⟨by rfl, ?_⟩) (by assumption) ?_
      rotate_left
      · intro w' hSw; go_simp <;> with_reducible rfl
      simp only [Act.put, List.getElem_toArray, List.getElem_cons_succ, List.getElem_cons_zero, List.setIfInBounds_toArray, List.set_cons_zero, List.set_cons_succ]
      refine wpAnyH_take (i := 6) (v := ?_) rfl (by kernel_rfl) (by kernel_rfl) (by kernel_rfl) (fun _ _ _ h => h) (Or.inl ⟨by rfl, ?_⟩) (by assumption) ?_
      rotate_left
      · intro w' hSw; go_simp <;> with_reducible rfl
      simp only [Act.put, List.getElem_toArray, List.getElem_cons_succ, List.getElem_cons_zero, List.setIfInBounds_toArray, List.set_cons_zero, List.set_cons_succ]
      refine wpAnyH_take (i := 7) (v := ?_) rfl (by kernel_rfl) (by kernel_rfl) (by kernel_rfl) (fun _ _ _ h => h) (Or.inl ⟨by rfl, ?_⟩) (by assumption) ?_
      rotate_left
      · intro w' hSw; go_simp <;> with_reducible rfl
      simp only [Act.put, List.getElem_toArray, List.getElem_cons_succ, List.getElem_cons_zero, List.setIfInBounds_toArray, List.set_cons_zero, List.set_cons_succ]
      refine wpAnyH_ready (rs := [9]) (by kernel_rfl) (by simp) ?_
      refine AllReadyH.cons rfl (fun K hK => ?_) AllReadyH.nil
      refine wp_store_blk 25 _ _ rfl rfl (Wr0.heap.size) rfl _ _ #[.string w0_0, .string w0_1, .string w0_2, .slice w0_3a w0_3n w0_3c] rfl (unhide HM_0) (by kernel_rfl) rfl (by simp [Value.oneCell']) ?_
      intro Wr17 hb9 hf9
      replace HM_0 := hide hb9
      replace HOo0 := hide (K0.ofr (unhide HOo0) hf9 (fun g9 h9 e9 => by have h1 := (unhide HP0) g9 h9; omega))
      replace G := hide (hf9.ext (unhide G) (fun q9 h9 => by have h1 := unhide LG_0; omega))
      replace HP0 : Hid (∀ g, S0 g → w4.heap.size ≤ g ∧ g < Wr17.heap.size ∧ g ≠ Wr0.heap.size) := hide (fun g9 h9 => by have h1 := (unhide HP0) g9 h9; have h2 := hf9.size; omega)
      clear hb9 hf9
      clear hHeld
      refine hK.out _ _ ⟨(unhide G).kept (unhide HB_p0), (unhide G).kept (unhide HB_p1)⟩ (fun hHeld => ?_)
      clear hK K
      refine wpAnyH_take (i := 10) (v := ?_) rfl (by kernel_rfl) (by kernel_rfl) (by kernel_rfl) (fun _ _ _ h => h) (Or.inl ⟨by rfl, ?_⟩) (by assumption) ?_
      rotate_left
      · intro w' hSw; go_simp <;> with_reducible rfl
      simp only [Act.put, List.getElem_toArray, List.getElem_cons_succ, List.getElem_cons_zero, List.setIfInBounds_toArray, List.set_cons_zero, List.set_cons_succ]
      refine wpAnyH_done (by kernel_rfl) ?_ _
      go_wp2
      go_meet
      exact ⟨_, _, _, _, _, _, _, _, _, rfl, rfl, HM_0, LG_0, HOo0, HP0, G⟩
  case rest =>
  rename World => w7
  obtain ⟨bw0, w0_0, w0_1, w0_2, w0_3a, w0_3n, w0_3c, Bw0, Sw0, rfl, rfl, HB_w0, HG_w0, HO_w0, HL_w0, HE9⟩ := hcut
  have hz_w0 := hide (lt_of_block (unhide HB_w0))
  have hs8 := hide ((unhide HE9)).size
  replace E := E.trans (unhide HE9)
  replace HB_p0 := hide (((unhide HE9)).kept (unhide HB_p0))
  replace HB_p1 := hide (((unhide HE9)).kept (unhide HB_p1))
  clear HE9
  have HR_w0 := hide (K0.reads (unhide HO_w0))
  clear HO_w0
  have HEw := hide (Ext.refl w7)
  have c_p0_0 : w7.cell? ⟨w.heap.size, 0, none⟩ = some (.string p0_0) := cells_of (unhide HB_p0) 0 _ rfl
  have c_p0_1 : w7.cell? ⟨w.heap.size, 1, none⟩ = some (.string p0_1) := cells_of (unhide HB_p0) 1 _ rfl
  have c_p0_2 : w7.cell? ⟨w.heap.size, 2, none⟩ = some (.string p0_2) := cells_of (unhide HB_p0) 2 _ rfl
  have c_p0_3 : w7.cell? ⟨w.heap.size, 3, none⟩ = some (.slice p0_3a p0_3n p0_3c) := cells_of (unhide HB_p0) 3 _ rfl
  have c_p1_0 : w7.cell? ⟨w.heap.size + 1, 0, none⟩ = some (.int .i64 p1_0) := cells_of (unhide HB_p1) 0 _ rfl
  have c_p1_1 : w7.cell? ⟨w.heap.size + 1, 1, none⟩ = some (.slice p1_1a p1_1n p1_1c) := cells_of (unhide HB_p1) 1 _ rfl
  go_wp2_with fail
  clear c_p0_0 c_p0_1 c_p0_2 c_p0_3 c_p1_0 c_p1_1
  refine ((unhide HTo0) _ E).mono ?_
  rintro e w9 ⟨ux0, Sx0, rfl, ox0, F10⟩
  have HL_x0 : Hid (∀ g, Sx0 g → w7.heap.size ≤ g ∧ g < w9.heap.size) := hide (X0.lt ox0)
  have hs11 := hide (F10).size
  replace E := E.trans F10
  replace HB_p0 := hide ((F10).kept (unhide HB_p0))
  replace HB_p1 := hide ((F10).kept (unhide HB_p1))
  replace HB_w0 := hide ((F10).kept (unhide HB_w0))
  replace HEw := hide ((unhide HEw).trans F10)
  obtain ⟨x0_0, x0_1, x0_2, x0_3a, x0_3n, x0_3c, rfl⟩ := (unhide ShX0) _ _ (X0.reads ox0)
  have HO_x0 := hide ox0
  clear ox0
  have c_p0_0 : ∀ o0, (w9.alloc o0).cell? ⟨w.heap.size, 0, none⟩ = some (.string p0_0) := fun o0 => ((Ext.refl w9).alloc o0).cell (cells_of (unhide HB_p0) 0 _ rfl)
  have c_p0_1 : ∀ o0, (w9.alloc o0).cell? ⟨w.heap.size, 1, none⟩ = some (.string p0_1) := fun o0 => ((Ext.refl w9).alloc o0).cell (cells_of (unhide HB_p0) 1 _ rfl)
  have c_p0_2 : ∀ o0, (w9.alloc o0).cell? ⟨w.heap.size, 2, none⟩ = some (.string p0_2) := fun o0 => ((Ext.refl w9).alloc o0).cell (cells_of (unhide HB_p0) 2 _ rfl)
  have c_p0_3 : ∀ o0, (w9.alloc o0).cell? ⟨w.heap.size, 3, none⟩ = some (.slice p0_3a p0_3n p0_3c) := fun o0 => ((Ext.refl w9).alloc o0).cell (cells_of (unhide HB_p0) 3 _ rfl)
  have c_p1_0 : ∀ o0, (w9.alloc o0).cell? ⟨w.heap.size + 1, 0, none⟩ = some (.int .i64 p1_0) := fun o0 => ((Ext.refl w9).alloc o0).cell (cells_of (unhide HB_p1) 0 _ rfl)
  have c_p1_1 : ∀ o0, (w9.alloc o0).cell? ⟨w.heap.size + 1, 1, none⟩ = some (.slice p1_1a p1_1n p1_1c) := fun o0 => ((Ext.refl w9).alloc o0).cell (cells_of (unhide HB_p1) 1 _ rfl)
  go_wp2_with fail
  clear c_p0_0 c_p0_1 c_p0_2 c_p0_3 c_p1_0 c_p1_1
  obtain ⟨V12, hV12⟩ : ∃ V12, V12 = w9.alloc (.cells #[.string x0_0, .string x0_1, .string x0_2, .slice x0_3a x0_3n x0_3c] 25) := ⟨_, rfl⟩
  rw [← hV12]
  have FV12 : Ext w9 V12 := by rw [hV12]; exact (Ext.refl w9).alloc _
  have HB_x0 : Hid (V12.heap[w9.heap.size]? = some (.cells #[.string x0_0, .string x0_1, .string x0_2, .slice x0_3a x0_3n x0_3c] 25 (0, 0))) := hide (by rw [hV12]; exact new_block w9 _)
  have hzV12 := hide (lt_of_block (unhide HB_x0))
  clear hV12
  have hs13 := hide (FV12).size
  replace E := E.trans FV12
  replace HB_p0 := hide ((FV12).kept (unhide HB_p0))
  replace HB_p1 := hide ((FV12).kept (unhide HB_p1))
  replace HB_w0 := hide ((FV12).kept (unhide HB_w0))
  replace HO_x0 := hide (X0.oext (unhide HO_x0) FV12)
  replace HEw := hide ((unhide HEw).trans FV12)
  refine ((unhide HTo1) _ E).mono ?_
  rintro e w14 ⟨ux1, Sx1, rfl, ox1, F15⟩
  have HL_x1 : Hid (∀ g, Sx1 g → V12.heap.size ≤ g ∧ g < w14.heap.size) := hide (X1.lt ox1)
  have hs16 := hide (F15).size
  replace E := E.trans F15
  replace HB_p0 := hide ((F15).kept (unhide HB_p0))
  replace HB_p1 := hide ((F15).kept (unhide HB_p1))
  replace HB_w0 := hide ((F15).kept (unhide HB_w0))
  replace HB_x0 := hide ((F15).kept (unhide HB_x0))
  replace HO_x0 := hide (X0.oext (unhide HO_x0) F15)
  replace HEw := hide ((unhide HEw).trans F15)
  obtain ⟨x1_0, x1_1a, x1_1n, x1_1c, rfl⟩ := (unhide ShX1) _ _ (X1.reads ox1)
  have HO_x1 := hide ox1
  clear ox1
  have c_x0_0 : ∀ o0, (w14.alloc o0).cell? ⟨w9.heap.size, 0, none⟩ = some (.string x0_0) := fun o0 => ((Ext.refl w14).alloc o0).cell (cells_of (unhide HB_x0) 0 _ rfl)
  have c_x0_1 : ∀ o0, (w14.alloc o0).cell? ⟨w9.heap.size, 1, none⟩ = some (.string x0_1) := fun o0 => ((Ext.refl w14).alloc o0).cell (cells_of (unhide HB_x0) 1 _ rfl)
  have c_x0_2 : ∀ o0, (w14.alloc o0).cell? ⟨w9.heap.size, 2, none⟩ = some (.string x0_2) := fun o0 => ((Ext.refl w14).alloc o0).cell (cells_of (unhide HB_x0) 2 _ rfl)
  have c_x0_3 : ∀ o0, (w14.alloc o0).cell? ⟨w9.heap.size, 3, none⟩ = some (.slice x0_3a x0_3n x0_3c) := fun o0 => ((Ext.refl w14).alloc o0).cell (cells_of (unhide HB_x0) 3 _ rfl)
  go_wp2_with fail
  clear c_x0_0 c_x0_1 c_x0_2 c_x0_3
  obtain ⟨V17, hV17⟩ : ∃ V17, V17 = w14.alloc (.cells #[.int .i64 x1_0, .slice x1_1a x1_1n x1_1c] 28) := ⟨_, rfl⟩
  rw [← hV17]
  have FV17 : Ext w14 V17 := by rw [hV17]; exact (Ext.refl w14).alloc _
  have HB_x1 : Hid (V17.heap[w14.heap.size]? = some (.cells #[.int .i64 x1_0, .slice x1_1a x1_1n x1_1c] 28 (0, 0))) := hide (by rw [hV17]; exact new_block w14 _)
  have hzV17 := hide (lt_of_block (unhide HB_x1))
  clear hV17
  have hs18 := hide (FV17).size
  replace E := E.trans FV17
  replace HB_p0 := hide ((FV17).kept (unhide HB_p0))
  replace HB_p1 := hide ((FV17).kept (unhide HB_p1))
  replace HB_w0 := hide ((FV17).kept (unhide HB_w0))
  replace HB_x0 := hide ((FV17).kept (unhide HB_x0))
  replace HO_x0 := hide (X0.oext (unhide HO_x0) FV17)
  replace HO_x1 := hide (X1.oext (unhide HO_x1) FV17)
  replace HEw := hide ((unhide HEw).trans FV17)
  refine ((unhide HI) _ _ _ E (X0.reads (unhide HO_x0)) (X1.reads (unhide HO_x1))).mono ?_
  rintro e w19 ⟨ug0, Sg0, rfl, og0, F20⟩
  have HL_g0 : Hid (∀ g, Sg0 g → V17.heap.size ≤ g ∧ g < w19.heap.size) := hide (K0.lt og0)
  have hs21 := hide (F20).size
  replace E := E.trans F20
  replace HB_p0 := hide ((F20).kept (unhide HB_p0))
  replace HB_p1 := hide ((F20).kept (unhide HB_p1))
  replace HB_w0 := hide ((F20).kept (unhide HB_w0))
  replace HB_x0 := hide ((F20).kept (unhide HB_x0))
  replace HB_x1 := hide ((F20).kept (unhide HB_x1))
  replace HO_x0 := hide (X0.oext (unhide HO_x0) F20)
  replace HO_x1 := hide (X1.oext (unhide HO_x1) F20)
  replace HEw := hide ((unhide HEw).trans F20)
  obtain ⟨g0_0, g0_1, g0_2, g0_3a, g0_3n, g0_3c, rfl⟩ := (unhide ShK0) _ _ (K0.reads og0)
  have HO_g0 := hide og0
  clear og0
  have c_w0_0 : ∀ o0, (w19.alloc o0).cell? ⟨bw0, 0, none⟩ = some (.string w0_0) := fun o0 => ((Ext.refl w19).alloc o0).cell (cells_of (unhide HB_w0) 0 _ rfl)
  have c_w0_1 : ∀ o0, (w19.alloc o0).cell? ⟨bw0, 1, none⟩ = some (.string w0_1) := fun o0 => ((Ext.refl w19).alloc o0).cell (cells_of (unhide HB_w0) 1 _ rfl)
  have c_w0_2 : ∀ o0, (w19.alloc o0).cell? ⟨bw0, 2, none⟩ = some (.string w0_2) := fun o0 => ((Ext.refl w19).alloc o0).cell (cells_of (unhide HB_w0) 2 _ rfl)
  have c_w0_3 : ∀ o0, (w19.alloc o0).cell? ⟨bw0, 3, none⟩ = some (.slice w0_3a w0_3n w0_3c) := fun o0 => ((Ext.refl w19).alloc o0).cell (cells_of (unhide HB_w0) 3 _ rfl)
  go_wp2_with fail
  clear c_w0_0 c_w0_1 c_w0_2 c_w0_3
  obtain ⟨V22, hV22⟩ : ∃ V22, V22 = w19.alloc (.cells #[.string g0_0, .string g0_1, .string g0_2, .slice g0_3a g0_3n g0_3c] 25) := ⟨_, rfl⟩
  rw [← hV22]
  have FV22 : Ext w19 V22 := by rw [hV22]; exact (Ext.refl w19).alloc _
  have HB_g0 : Hid (V22.heap[w19.heap.size]? = some (.cells #[.string g0_0, .string g0_1, .string g0_2, .slice g0_3a g0_3n g0_3c] 25 (0, 0))) := hide (by rw [hV22]; exact new_block w19 _)
  have hzV22 := hide (lt_of_block (unhide HB_g0))
  clear hV22
  have hs23 := hide (FV22).size
  replace E := E.trans FV22
  replace HB_p0 := hide ((FV22).kept (unhide HB_p0))
  replace HB_p1 := hide ((FV22).kept (unhide HB_p1))
  replace HB_w0 := hide ((FV22).kept (unhide HB_w0))
  replace HB_x0 := hide ((FV22).kept (unhide HB_x0))
  replace HB_x1 := hide ((FV22).kept (unhide HB_x1))
  replace HO_x0 := hide (X0.oext (unhide HO_x0) FV22)
  replace HO_x1 := hide (X1.oext (unhide HO_x1) FV22)
  replace HO_g0 := hide (K0.oext (unhide HO_g0) FV22)
  replace HEw := hide ((unhide HEw).trans FV22)
  refine ((unhide HEqK0) _ _ _ (K0.reads (unhide HO_g0)) (K0.rext (unhide HR_w0) (unhide HEw))).mono ?_
  rintro e w24 ⟨rfl, F25⟩
  have hs26 := hide (F25).size
  replace E := E.trans F25
  replace HB_p0 := hide ((F25).kept (unhide HB_p0))
  replace HB_p1 := hide ((F25).kept (unhide HB_p1))
  replace HB_w0 := hide ((F25).kept (unhide HB_w0))
  replace HB_x0 := hide ((F25).kept (unhide HB_x0))
  replace HB_x1 := hide ((F25).kept (unhide HB_x1))
  replace HB_g0 := hide ((F25).kept (unhide HB_g0))
  replace HO_x0 := hide (X0.oext (unhide HO_x0) F25)
  replace HO_x1 := hide (X1.oext (unhide HO_x1) F25)
  replace HO_g0 := hide (K0.oext (unhide HO_g0) F25)
  replace HEw := hide ((unhide HEw).trans F25)
  have c_x0_0 : w24.cell? ⟨w9.heap.size, 0, none⟩ = some (.string x0_0) := cells_of (unhide HB_x0) 0 _ rfl
  have c_x0_1 : w24.cell? ⟨w9.heap.size, 1, none⟩ = some (.string x0_1) := cells_of (unhide HB_x0) 1 _ rfl
  have c_x0_2 : w24.cell? ⟨w9.heap.size, 2, none⟩ = some (.string x0_2) := cells_of (unhide HB_x0) 2 _ rfl
  have c_x0_3 : w24.cell? ⟨w9.heap.size, 3, none⟩ = some (.slice x0_3a x0_3n x0_3c) := cells_of (unhide HB_x0) 3 _ rfl
  have c_p0_0 : w24.cell? ⟨w.heap.size, 0, none⟩ = some (.string p0_0) := cells_of (unhide HB_p0) 0 _ rfl
  have c_p0_1 : w24.cell? ⟨w.heap.size, 1, none⟩ = some (.string p0_1) := cells_of (unhide HB_p0) 1 _ rfl
  have c_p0_2 : w24.cell? ⟨w.heap.size, 2, none⟩ = some (.string p0_2) := cells_of (unhide HB_p0) 2 _ rfl
  have c_p0_3 : w24.cell? ⟨w.heap.size, 3, none⟩ = some (.slice p0_3a p0_3n p0_3c) := cells_of (unhide HB_p0) 3 _ rfl
  go_wp2
  have HTt := hide (fun U (hU : Ext w24 U) => (unhide HTo0) U (E.trans hU))
  go_region_held3 (fun W => W.cell? ⟨w9.heap.size, 0, none⟩ = some (.string x0_0) ∧ W.cell? ⟨w9.heap.size, 1, none⟩ = some (.string x0_1) ∧ W.cell? ⟨w9.heap.size, 2, none⟩ = some (.string x0_2) ∧ W.cell? ⟨w9.heap.size, 3, none⟩ = some (.slice x0_3a x0_3n x0_3c) ∧ W.cell? ⟨w.heap.size, 0, none⟩ = some (.string p0_0) ∧ W.cell? ⟨w.heap.size, 1, none⟩ = some (.string p0_1) ∧ W.cell? ⟨w.heap.size, 2, none⟩ = some (.string p0_2) ∧ W.cell? ⟨w.heap.size, 3, none⟩ = some (.slice p0_3a p0_3n p0_3c)) (first | exact ⟨c_x0_0, c_x0_1, c_x0_2, c_x0_3, c_p0_0, c_p0_1, c_p0_2, c_p0_3⟩ | exact ⟨he'.cell c_x0_0, he'.cell c_x0_1, he'.cell c_x0_2, he'.cell c_x0_3, he'.cell c_p0_0, he'.cell c_p0_1, he'.cell c_p0_2, he'.cell c_p0_3⟩)
    (first
      | (go_at_call 12; refine ((unhide HTt) _ (Ext.refl w24).drew).mono ?_; rintro e w27 ⟨uT, ST, rfl, oT, FT⟩; have he' := (Ext.refl w24).drew.trans FT; obtain ⟨yx0, yx1, yx2, yx3a, yx3n, yx3c, rfl⟩ := (unhide ShX0) _ _ (X0.reads oT); have RT := hide (X0.reads oT); clear oT FT)
      | (go_at_call 14; refine ((unhide HEqX0) _ _ _ (X0.rext (X0.reads (unhide HO_x0)) he') (unhide RT)).mono ?_; rintro e w28 ⟨rfl, FE⟩; have he' := he'.trans FE; clear FE))
  clear HTt RT c_x0_0 c_x0_1 c_x0_2 c_x0_3 c_p0_0 c_p0_1 c_p0_2 c_p0_3
  have F29 := he'
  clear he'
  have hs30 := hide (F29).size
  replace E := E.trans F29
  replace HB_p0 := hide ((F29).kept (unhide HB_p0))
  replace HB_p1 := hide ((F29).kept (unhide HB_p1))
  replace HB_w0 := hide ((F29).kept (unhide HB_w0))
  replace HB_x0 := hide ((F29).kept (unhide HB_x0))
  replace HB_x1 := hide ((F29).kept (unhide HB_x1))
  replace HB_g0 := hide ((F29).kept (unhide HB_g0))
  replace HO_x0 := hide (X0.oext (unhide HO_x0) F29)
  replace HO_x1 := hide (X1.oext (unhide HO_x1) F29)
  replace HO_g0 := hide (K0.oext (unhide HO_g0) F29)
  replace HEw := hide ((unhide HEw).trans F29)
  have c_x1_0 : w28.cell? ⟨w14.heap.size, 0, none⟩ = some (.int .i64 x1_0) := cells_of (unhide HB_x1) 0 _ rfl
  have c_x1_1 : w28.cell? ⟨w14.heap.size, 1, none⟩ = some (.slice x1_1a x1_1n x1_1c) := cells_of (unhide HB_x1) 1 _ rfl
  have c_p1_0 : w28.cell? ⟨w.heap.size + 1, 0, none⟩ = some (.int .i64 p1_0) := cells_of (unhide HB_p1) 0 _ rfl
  have c_p1_1 : w28.cell? ⟨w.heap.size + 1, 1, none⟩ = some (.slice p1_1a p1_1n p1_1c) := cells_of (unhide HB_p1) 1 _ rfl
  go_wp2
  have HTt := hide (fun U (hU : Ext w28 U) => (unhide HTo1) U (E.trans hU))
  go_region_held3 (fun W => W.cell? ⟨w14.heap.size, 0, none⟩ = some (.int .i64 x1_0) ∧ W.cell? ⟨w14.heap.size, 1, none⟩ = some (.slice x1_1a x1_1n x1_1c) ∧ W.cell? ⟨w.heap.size + 1, 0, none⟩ = some (.int .i64 p1_0) ∧ W.cell? ⟨w.heap.size + 1, 1, none⟩ = some (.slice p1_1a p1_1n p1_1c)) (first | exact ⟨c_x1_0, c_x1_1, c_p1_0, c_p1_1⟩ | exact ⟨he'.cell c_x1_0, he'.cell c_x1_1, he'.cell c_p1_0, he'.cell c_p1_1⟩)
    (first
      | (go_at_call 13; refine ((unhide HTt) _ (Ext.refl w28).drew).mono ?_; rintro e w31 ⟨uT, ST, rfl, oT, FT⟩; have he' := (Ext.refl w28).drew.trans FT; obtain ⟨yx0, yx1a, yx1n, yx1c, rfl⟩ := (unhide ShX1) _ _ (X1.reads oT); have RT := hide (X1.reads oT); clear oT FT)
      | (go_at_call 15; refine ((unhide HEqX1) _ _ _ (X1.rext (X1.reads (unhide HO_x1)) he') (unhide RT)).mono ?_; rintro e w32 ⟨rfl, FE⟩; have he' := he'.trans FE; clear FE))
  clear HTt RT c_x1_0 c_x1_1 c_p1_0 c_p1_1
  have F33 := he'
  clear he'
  have hs34 := hide (F33).size
  replace E := E.trans F33
  replace HB_p0 := hide ((F33).kept (unhide HB_p0))
  replace HB_p1 := hide ((F33).kept (unhide HB_p1))
  replace HB_w0 := hide ((F33).kept (unhide HB_w0))
  replace HB_x0 := hide ((F33).kept (unhide HB_x0))
  replace HB_x1 := hide ((F33).kept (unhide HB_x1))
  replace HB_g0 := hide ((F33).kept (unhide HB_g0))
  replace HO_x0 := hide (X0.oext (unhide HO_x0) F33)
  replace HO_x1 := hide (X1.oext (unhide HO_x1) F33)
  replace HO_g0 := hide (K0.oext (unhide HO_g0) F33)
  replace HEw := hide ((unhide HEw).trans F33)
  have c_x0_0 : w32.cell? ⟨w9.heap.size, 0, none⟩ = some (.string x0_0) := cells_of (unhide HB_x0) 0 _ rfl
  have c_x0_1 : w32.cell? ⟨w9.heap.size, 1, none⟩ = some (.string x0_1) := cells_of (unhide HB_x0) 1 _ rfl
  have c_x0_2 : w32.cell? ⟨w9.heap.size, 2, none⟩ = some (.string x0_2) := cells_of (unhide HB_x0) 2 _ rfl
  have c_x0_3 : w32.cell? ⟨w9.heap.size, 3, none⟩ = some (.slice x0_3a x0_3n x0_3c) := cells_of (unhide HB_x0) 3 _ rfl
  go_wp2_with fail
  clear c_x0_0 c_x0_1 c_x0_2 c_x0_3
  refine ((unhide HMkX0) _ _ _ _ _ (unhide HO_x0) (by omega) (by omega)).mono ?_
  rintro e w35 ⟨rfl, om, F36⟩
  replace E := F36.ext E (fun _ h9 => by have b9 := (unhide HL_x0) _ h9; have z0 := unhide hzW0; have z1 := unhide hs3; have z2 := unhide hs6; have z3 := unhide hz_w0; have z4 := unhide HG_w0; have z5 := unhide hs8; have z6 := unhide hs11; have z7 := unhide hzV12; have z8 := unhide hs13; have z9 := unhide hs16; have z10 := unhide hzV17; have z11 := unhide hs18; have z12 := unhide hs21; have z13 := unhide hzV22; have z14 := unhide hs23; have z15 := unhide hs26; have z16 := unhide hs30; have z17 := unhide hs34; omega)
  replace HEw := hide (F36.ext (unhide HEw) (fun _ h9 => by have b9 := (unhide HL_x0) _ h9; have z0 := unhide hzW0; have z1 := unhide hs3; have z2 := unhide hs6; have z3 := unhide hz_w0; have z4 := unhide HG_w0; have z5 := unhide hs8; have z6 := unhide hs11; have z7 := unhide hzV12; have z8 := unhide hs13; have z9 := unhide hs16; have z10 := unhide hzV17; have z11 := unhide hs18; have z12 := unhide hs21; have z13 := unhide hzV22; have z14 := unhide hs23; have z15 := unhide hs26; have z16 := unhide hs30; have z17 := unhide hs34; omega))
  replace HB_p0 := hide (F36.kept (unhide HB_p0) (fun h9 => by have b9 := (unhide HL_x0) _ h9; have z0 := unhide hzW0; have z1 := unhide hs3; have z2 := unhide hs6; have z3 := unhide hz_w0; have z4 := unhide HG_w0; have z5 := unhide hs8; have z6 := unhide hs11; have z7 := unhide hzV12; have z8 := unhide hs13; have z9 := unhide hs16; have z10 := unhide hzV17; have z11 := unhide hs18; have z12 := unhide hs21; have z13 := unhide hzV22; have z14 := unhide hs23; have z15 := unhide hs26; have z16 := unhide hs30; have z17 := unhide hs34; omega))
  replace HB_p1 := hide (F36.kept (unhide HB_p1) (fun h9 => by have b9 := (unhide HL_x0) _ h9; have z0 := unhide hzW0; have z1 := unhide hs3; have z2 := unhide hs6; have z3 := unhide hz_w0; have z4 := unhide HG_w0; have z5 := unhide hs8; have z6 := unhide hs11; have z7 := unhide hzV12; have z8 := unhide hs13; have z9 := unhide hs16; have z10 := unhide hzV17; have z11 := unhide hs18; have z12 := unhide hs21; have z13 := unhide hzV22; have z14 := unhide hs23; have z15 := unhide hs26; have z16 := unhide hs30; have z17 := unhide hs34; omega))
  replace HB_w0 := hide (F36.kept (unhide HB_w0) (fun h9 => by have b9 := (unhide HL_x0) _ h9; have z0 := unhide hzW0; have z1 := unhide hs3; have z2 := unhide hs6; have z3 := unhide hz_w0; have z4 := unhide HG_w0; have z5 := unhide hs8; have z6 := unhide hs11; have z7 := unhide hzV12; have z8 := unhide hs13; have z9 := unhide hs16; have z10 := unhide hzV17; have z11 := unhide hs18; have z12 := unhide hs21; have z13 := unhide hzV22; have z14 := unhide hs23; have z15 := unhide hs26; have z16 := unhide hs30; have z17 := unhide hs34; omega))
  replace HB_x0 := hide (F36.kept (unhide HB_x0) (fun h9 => by have b9 := (unhide HL_x0) _ h9; have z0 := unhide hzW0; have z1 := unhide hs3; have z2 := unhide hs6; have z3 := unhide hz_w0; have z4 := unhide HG_w0; have z5 := unhide hs8; have z6 := unhide hs11; have z7 := unhide hzV12; have z8 := unhide hs13; have z9 := unhide hs16; have z10 := unhide hzV17; have z11 := unhide hs18; have z12 := unhide hs21; have z13 := unhide hzV22; have z14 := unhide hs23; have z15 := unhide hs26; have z16 := unhide hs30; have z17 := unhide hs34; omega))
  replace HB_x1 := hide (F36.kept (unhide HB_x1) (fun h9 => by have b9 := (unhide HL_x0) _ h9; have z0 := unhide hzW0; have z1 := unhide hs3; have z2 := unhide hs6; have z3 := unhide hz_w0; have z4 := unhide HG_w0; have z5 := unhide hs8; have z6 := unhide hs11; have z7 := unhide hzV12; have z8 := unhide hs13; have z9 := unhide hs16; have z10 := unhide hzV17; have z11 := unhide hs18; have z12 := unhide hs21; have z13 := unhide hzV22; have z14 := unhide hs23; have z15 := unhide hs26; have z16 := unhide hs30; have z17 := unhide hs34; omega))
  replace HB_g0 := hide (F36.kept (unhide HB_g0) (fun h9 => by have b9 := (unhide HL_x0) _ h9; have z0 := unhide hzW0; have z1 := unhide hs3; have z2 := unhide hs6; have z3 := unhide hz_w0; have z4 := unhide HG_w0; have z5 := unhide hs8; have z6 := unhide hs11; have z7 := unhide hzV12; have z8 := unhide hs13; have z9 := unhide hs16; have z10 := unhide hzV17; have z11 := unhide hs18; have z12 := unhide hs21; have z13 := unhide hzV22; have z14 := unhide hs23; have z15 := unhide hs26; have z16 := unhide hs30; have z17 := unhide hs34; omega))
  replace HO_x1 := hide (X1.ofr (unhide HO_x1) F36 (fun q9 h8 h9 => by have b8 := (unhide HL_x1) q9 h8; have b9 := (unhide HL_x0) q9 h9; have z0 := unhide hzW0; have z1 := unhide hs3; have z2 := unhide hs6; have z3 := unhide hz_w0; have z4 := unhide HG_w0; have z5 := unhide hs8; have z6 := unhide hs11; have z7 := unhide hzV12; have z8 := unhide hs13; have z9 := unhide hs16; have z10 := unhide hzV17; have z11 := unhide hs18; have z12 := unhide hs21; have z13 := unhide hzV22; have z14 := unhide hs23; have z15 := unhide hs26; have z16 := unhide hs30; have z17 := unhide hs34; omega))
  replace HO_g0 := hide (K0.ofr (unhide HO_g0) F36 (fun q9 h8 h9 => by have b8 := (unhide HL_g0) q9 h8; have b9 := (unhide HL_x0) q9 h9; have z0 := unhide hzW0; have z1 := unhide hs3; have z2 := unhide hs6; have z3 := unhide hz_w0; have z4 := unhide HG_w0; have z5 := unhide hs8; have z6 := unhide hs11; have z7 := unhide hzV12; have z8 := unhide hs13; have z9 := unhide hs16; have z10 := unhide hzV17; have z11 := unhide hs18; have z12 := unhide hs21; have z13 := unhide hzV22; have z14 := unhide hs23; have z15 := unhide hs26; have z16 := unhide hs30; have z17 := unhide hs34; omega))
  have hs37 := hide F36.size
  replace HO_x0 := hide om
  clear om
  have c_x1_0 : w35.cell? ⟨w14.heap.size, 0, none⟩ = some (.int .i64 x1_0) := cells_of (unhide HB_x1) 0 _ rfl
  have c_x1_1 : w35.cell? ⟨w14.heap.size, 1, none⟩ = some (.slice x1_1a x1_1n x1_1c) := cells_of (unhide HB_x1) 1 _ rfl
  go_wp2_with fail
  clear c_x1_0 c_x1_1
  refine ((unhide HMkX1) _ _ _ _ _ (unhide HO_x1) (by omega) (by omega)).mono ?_
  rintro e w38 ⟨rfl, om, F39⟩
  replace E := F39.ext E (fun _ h9 => by have b9 := (unhide HL_x1) _ h9; have z0 := unhide hzW0; have z1 := unhide hs3; have z2 := unhide hs6; have z3 := unhide hz_w0; have z4 := unhide HG_w0; have z5 := unhide hs8; have z6 := unhide hs11; have z7 := unhide hzV12; have z8 := unhide hs13; have z9 := unhide hs16; have z10 := unhide hzV17; have z11 := unhide hs18; have z12 := unhide hs21; have z13 := unhide hzV22; have z14 := unhide hs23; have z15 := unhide hs26; have z16 := unhide hs30; have z17 := unhide hs34; have z18 := unhide hs37; omega)
  replace HEw := hide (F39.ext (unhide HEw) (fun _ h9 => by have b9 := (unhide HL_x1) _ h9; have z0 := unhide hzW0; have z1 := unhide hs3; have z2 := unhide hs6; have z3 := unhide hz_w0; have z4 := unhide HG_w0; have z5 := unhide hs8; have z6 := unhide hs11; have z7 := unhide hzV12; have z8 := unhide hs13; have z9 := unhide hs16; have z10 := unhide hzV17; have z11 := unhide hs18; have z12 := unhide hs21; have z13 := unhide hzV22; have z14 := unhide hs23; have z15 := unhide hs26; have z16 := unhide hs30; have z17 := unhide hs34; have z18 := unhide hs37; omega))
  replace HB_p0 := hide (F39.kept (unhide HB_p0) (fun h9 => by have b9 := (unhide HL_x1) _ h9; have z0 := unhide hzW0; have z1 := unhide hs3; have z2 := unhide hs6; have z3 := unhide hz_w0; have z4 := unhide HG_w0; have z5 := unhide hs8; have z6 := unhide hs11; have z7 := unhide hzV12; have z8 := unhide hs13; have z9 := unhide hs16; have z10 := unhide hzV17; have z11 := unhide hs18; have z12 := unhide hs21; have z13 := unhide hzV22; have z14 := unhide hs23; have z15 := unhide hs26; have z16 := unhide hs30; have z17 := unhide hs34; have z18 := unhide hs37; omega))
  replace HB_p1 := hide (F39.kept (unhide HB_p1) (fun h9 => by have b9 := (unhide HL_x1) _ h9; have z0 := unhide hzW0; have z1 := unhide hs3; have z2 := unhide hs6; have z3 := unhide hz_w0; have z4 := unhide HG_w0; have z5 := unhide hs8; have z6 := unhide hs11; have z7 := unhide hzV12; have z8 := unhide hs13; have z9 := unhide hs16; have z10 := unhide hzV17; have z11 := unhide hs18; have z12 := unhide hs21; have z13 := unhide hzV22; have z14 := unhide hs23; have z15 := unhide hs26; have z16 := unhide hs30; have z17 := unhide hs34; have z18 := unhide hs37; omega))
  replace HB_w0 := hide (F39.kept (unhide HB_w0) (fun h9 => by have b9 := (unhide HL_x1) _ h9; have z0 := unhide hzW0; have z1 := unhide hs3; have z2 := unhide hs6; have z3 := unhide hz_w0; have z4 := unhide HG_w0; have z5 := unhide hs8; have z6 := unhide hs11; have z7 := unhide hzV12; have z8 := unhide hs13; have z9 := unhide hs16; have z10 := unhide hzV17; have z11 := unhide hs18; have z12 := unhide hs21; have z13 := unhide hzV22; have z14 := unhide hs23; have z15 := unhide hs26; have z16 := unhide hs30; have z17 := unhide hs34; have z18 := unhide hs37; omega))
  replace HB_x0 := hide (F39.kept (unhide HB_x0) (fun h9 => by have b9 := (unhide HL_x1) _ h9; have z0 := unhide hzW0; have z1 := unhide hs3; have z2 := unhide hs6; have z3 := unhide hz_w0; have z4 := unhide HG_w0; have z5 := unhide hs8; have z6 := unhide hs11; have z7 := unhide hzV12; have z8 := unhide hs13; have z9 := unhide hs16; have z10 := unhide hzV17; have z11 := unhide hs18; have z12 := unhide hs21; have z13 := unhide hzV22; have z14 := unhide hs23; have z15 := unhide hs26; have z16 := unhide hs30; have z17 := unhide hs34; have z18 := unhide hs37; omega))
  replace HB_x1 := hide (F39.kept (unhide HB_x1) (fun h9 => by have b9 := (unhide HL_x1) _ h9; have z0 := unhide hzW0; have z1 := unhide hs3; have z2 := unhide hs6; have z3 := unhide hz_w0; have z4 := unhide HG_w0; have z5 := unhide hs8; have z6 := unhide hs11; have z7 := unhide hzV12; have z8 := unhide hs13; have z9 := unhide hs16; have z10 := unhide hzV17; have z11 := unhide hs18; have z12 := unhide hs21; have z13 := unhide hzV22; have z14 := unhide hs23; have z15 := unhide hs26; have z16 := unhide hs30; have z17 := unhide hs34; have z18 := unhide hs37; omega))
  replace HB_g0 := hide (F39.kept (unhide HB_g0) (fun h9 => by have b9 := (unhide HL_x1) _ h9; have z0 := unhide hzW0; have z1 := unhide hs3; have z2 := unhide hs6; have z3 := unhide hz_w0; have z4 := unhide HG_w0; have z5 := unhide hs8; have z6 := unhide hs11; have z7 := unhide hzV12; have z8 := unhide hs13; have z9 := unhide hs16; have z10 := unhide hzV17; have z11 := unhide hs18; have z12 := unhide hs21; have z13 := unhide hzV22; have z14 := unhide hs23; have z15 := unhide hs26; have z16 := unhide hs30; have z17 := unhide hs34; have z18 := unhide hs37; omega))
  replace HO_x0 := hide ((MX0 (1)).ofr (unhide HO_x0) F39 (fun q9 h8 h9 => by have b8 := (unhide HL_x0) q9 h8; have b9 := (unhide HL_x1) q9 h9; have z0 := unhide hzW0; have z1 := unhide hs3; have z2 := unhide hs6; have z3 := unhide hz_w0; have z4 := unhide HG_w0; have z5 := unhide hs8; have z6 := unhide hs11; have z7 := unhide hzV12; have z8 := unhide hs13; have z9 := unhide hs16; have z10 := unhide hzV17; have z11 := unhide hs18; have z12 := unhide hs21; have z13 := unhide hzV22; have z14 := unhide hs23; have z15 := unhide hs26; have z16 := unhide hs30; have z17 := unhide hs34; have z18 := unhide hs37; omega))
  replace HO_g0 := hide (K0.ofr (unhide HO_g0) F39 (fun q9 h8 h9 => by have b8 := (unhide HL_g0) q9 h8; have b9 := (unhide HL_x1) q9 h9; have z0 := unhide hzW0; have z1 := unhide hs3; have z2 := unhide hs6; have z3 := unhide hz_w0; have z4 := unhide HG_w0; have z5 := unhide hs8; have z6 := unhide hs11; have z7 := unhide hzV12; have z8 := unhide hs13; have z9 := unhide hs16; have z10 := unhide hzV17; have z11 := unhide hs18; have z12 := unhide hs21; have z13 := unhide hzV22; have z14 := unhide hs23; have z15 := unhide hs26; have z16 := unhide hs30; have z17 := unhide hs34; have z18 := unhide hs37; omega))
  have hs40 := hide F39.size
  replace HO_x1 := hide om
  clear om
  have hkk : ¬ (1 + (mX0 : Int) + (mX1 : Int) : Int) < 0 := by omega
  clear HO_x0
  clear HO_x1
  clear HB_x0
  clear HB_x1
  have c_g0_0 : w38.cell? ⟨w19.heap.size, 0, none⟩ = some (.string g0_0) := cells_of (unhide HB_g0) 0 _ rfl
  have c_g0_1 : w38.cell? ⟨w19.heap.size, 1, none⟩ = some (.string g0_1) := cells_of (unhide HB_g0) 1 _ rfl
  have c_g0_2 : w38.cell? ⟨w19.heap.size, 2, none⟩ = some (.string g0_2) := cells_of (unhide HB_g0) 2 _ rfl
  have c_g0_3 : w38.cell? ⟨w19.heap.size, 3, none⟩ = some (.slice g0_3a g0_3n g0_3c) := cells_of (unhide HB_g0) 3 _ rfl
  have c_w0_0 : w38.cell? ⟨bw0, 0, none⟩ = some (.string w0_0) := cells_of (unhide HB_w0) 0 _ rfl
  have c_w0_1 : w38.cell? ⟨bw0, 1, none⟩ = some (.string w0_1) := cells_of (unhide HB_w0) 1 _ rfl
  have c_w0_2 : w38.cell? ⟨bw0, 2, none⟩ = some (.string w0_2) := cells_of (unhide HB_w0) 2 _ rfl
  have c_w0_3 : w38.cell? ⟨bw0, 3, none⟩ = some (.slice w0_3a w0_3n w0_3c) := cells_of (unhide HB_w0) 3 _ rfl
  go_wp2_with fail
  clear c_g0_0 c_g0_1 c_g0_2 c_g0_3 c_w0_0 c_w0_1 c_w0_2 c_w0_3
  refine ((unhide HEqK0) _ _ _ (K0.reads (unhide HO_g0)) (K0.rext (unhide HR_w0) (unhide HEw))).mono ?_
  rintro e w41 ⟨rfl, F42⟩
  have hs43 := hide (F42).size
  replace E := E.trans F42
  replace HB_p0 := hide ((F42).kept (unhide HB_p0))
  replace HB_p1 := hide ((F42).kept (unhide HB_p1))
  replace HB_w0 := hide ((F42).kept (unhide HB_w0))
  replace HB_g0 := hide ((F42).kept (unhide HB_g0))
  replace HO_g0 := hide (K0.oext (unhide HO_g0) F42)
  replace HEw := hide ((unhide HEw).trans F42)
  have c_g0_0 : w41.cell? ⟨w19.heap.size, 0, none⟩ = some (.string g0_0) := cells_of (unhide HB_g0) 0 _ rfl
  have c_g0_1 : w41.cell? ⟨w19.heap.size, 1, none⟩ = some (.string g0_1) := cells_of (unhide HB_g0) 1 _ rfl
  have c_g0_2 : w41.cell? ⟨w19.heap.size, 2, none⟩ = some (.string g0_2) := cells_of (unhide HB_g0) 2 _ rfl
  have c_g0_3 : w41.cell? ⟨w19.heap.size, 3, none⟩ = some (.slice g0_3a g0_3n g0_3c) := cells_of (unhide HB_g0) 3 _ rfl
  go_wp2_with fail
  clear c_g0_0 c_g0_1 c_g0_2 c_g0_3
  refine ((unhide HMkK0) _ _ _ _ _ (unhide HO_g0) (by omega) (by omega)).mono ?_
  rintro e w44 ⟨rfl, om, F45⟩
  replace E := F45.ext E (fun _ h9 => by have b9 := (unhide HL_g0) _ h9; have z0 := unhide hzW0; have z1 := unhide hs3; have z2 := unhide hs6; have z3 := unhide hz_w0; have z4 := unhide HG_w0; have z5 := unhide hs8; have z6 := unhide hs11; have z7 := unhide hzV12; have z8 := unhide hs13; have z9 := unhide hs16; have z10 := unhide hzV17; have z11 := unhide hs18; have z12 := unhide hs21; have z13 := unhide hzV22; have z14 := unhide hs23; have z15 := unhide hs26; have z16 := unhide hs30; have z17 := unhide hs34; have z18 := unhide hs37; have z19 := unhide hs40; have z20 := unhide hs43; omega)
  replace HEw := hide (F45.ext (unhide HEw) (fun _ h9 => by have b9 := (unhide HL_g0) _ h9; have z0 := unhide hzW0; have z1 := unhide hs3; have z2 := unhide hs6; have z3 := unhide hz_w0; have z4 := unhide HG_w0; have z5 := unhide hs8; have z6 := unhide hs11; have z7 := unhide hzV12; have z8 := unhide hs13; have z9 := unhide hs16; have z10 := unhide hzV17; have z11 := unhide hs18; have z12 := unhide hs21; have z13 := unhide hzV22; have z14 := unhide hs23; have z15 := unhide hs26; have z16 := unhide hs30; have z17 := unhide hs34; have z18 := unhide hs37; have z19 := unhide hs40; have z20 := unhide hs43; omega))
  replace HB_p0 := hide (F45.kept (unhide HB_p0) (fun h9 => by have b9 := (unhide HL_g0) _ h9; have z0 := unhide hzW0; have z1 := unhide hs3; have z2 := unhide hs6; have z3 := unhide hz_w0; have z4 := unhide HG_w0; have z5 := unhide hs8; have z6 := unhide hs11; have z7 := unhide hzV12; have z8 := unhide hs13; have z9 := unhide hs16; have z10 := unhide hzV17; have z11 := unhide hs18; have z12 := unhide hs21; have z13 := unhide hzV22; have z14 := unhide hs23; have z15 := unhide hs26; have z16 := unhide hs30; have z17 := unhide hs34; have z18 := unhide hs37; have z19 := unhide hs40; have z20 := unhide hs43; omega))
  replace HB_p1 := hide (F45.kept (unhide HB_p1) (fun h9 => by have b9 := (unhide HL_g0) _ h9; have z0 := unhide hzW0; have z1 := unhide hs3; have z2 := unhide hs6; have z3 := unhide hz_w0; have z4 := unhide HG_w0; have z5 := unhide hs8; have z6 := unhide hs11; have z7 := unhide hzV12; have z8 := unhide hs13; have z9 := unhide hs16; have z10 := unhide hzV17; have z11 := unhide hs18; have z12 := unhide hs21; have z13 := unhide hzV22; have z14 := unhide hs23; have z15 := unhide hs26; have z16 := unhide hs30; have z17 := unhide hs34; have z18 := unhide hs37; have z19 := unhide hs40; have z20 := unhide hs43; omega))
  replace HB_w0 := hide (F45.kept (unhide HB_w0) (fun h9 => by have b9 := (unhide HL_g0) _ h9; have z0 := unhide hzW0; have z1 := unhide hs3; have z2 := unhide hs6; have z3 := unhide hz_w0; have z4 := unhide HG_w0; have z5 := unhide hs8; have z6 := unhide hs11; have z7 := unhide hzV12; have z8 := unhide hs13; have z9 := unhide hs16; have z10 := unhide hzV17; have z11 := unhide hs18; have z12 := unhide hs21; have z13 := unhide hzV22; have z14 := unhide hs23; have z15 := unhide hs26; have z16 := unhide hs30; have z17 := unhide hs34; have z18 := unhide hs37; have z19 := unhide hs40; have z20 := unhide hs43; omega))
  replace HB_g0 := hide (F45.kept (unhide HB_g0) (fun h9 => by have b9 := (unhide HL_g0) _ h9; have z0 := unhide hzW0; have z1 := unhide hs3; have z2 := unhide hs6; have z3 := unhide hz_w0; have z4 := unhide HG_w0; have z5 := unhide hs8; have z6 := unhide hs11; have z7 := unhide hzV12; have z8 := unhide hs13; have z9 := unhide hs16; have z10 := unhide hzV17; have z11 := unhide hs18; have z12 := unhide hs21; have z13 := unhide hzV22; have z14 := unhide hs23; have z15 := unhide hs26; have z16 := unhide hs30; have z17 := unhide hs34; have z18 := unhide hs37; have z19 := unhide hs40; have z20 := unhide hs43; omega))
  have hs46 := hide F45.size
  replace HO_g0 := hide om
  clear om
  have hq0 : ¬ (1 + (mK0 : Int) : Int) < 0 := by omega
  have c_g0_0 : w44.cell? ⟨w19.heap.size, 0, none⟩ = some (.string g0_0) := cells_of (unhide HB_g0) 0 _ rfl
  have c_g0_1 : w44.cell? ⟨w19.heap.size, 1, none⟩ = some (.string g0_1) := cells_of (unhide HB_g0) 1 _ rfl
  have c_g0_2 : w44.cell? ⟨w19.heap.size, 2, none⟩ = some (.string g0_2) := cells_of (unhide HB_g0) 2 _ rfl
  have c_g0_3 : w44.cell? ⟨w19.heap.size, 3, none⟩ = some (.slice g0_3a g0_3n g0_3c) := cells_of (unhide HB_g0) 3 _ rfl
  go_wp2_with fail
  clear c_g0_0 c_g0_1 c_g0_2 c_g0_3
  refine ((unhide HHdK0) _ _ _ ((MK0 (1)).reads (unhide HO_g0)) (by omega) (by omega)).mono ?_
  rintro e w47 ⟨rfl, F48⟩
  have hs49 := hide (F48).size
  replace E := E.trans F48
  replace HB_p0 := hide ((F48).kept (unhide HB_p0))
  replace HB_p1 := hide ((F48).kept (unhide HB_p1))
  replace HB_w0 := hide ((F48).kept (unhide HB_w0))
  replace HB_g0 := hide ((F48).kept (unhide HB_g0))
  replace HO_g0 := hide ((MK0 (1)).oext (unhide HO_g0) F48)
  replace HEw := hide ((unhide HEw).trans F48)
  go_upto_region 31 with fail
  go_cut [15, 16] (fun v0 v1 wq => ∃ (bh0 : Nat) (h0_0 : ByteArray) (h0_1 : ByteArray) (h0_2 : ByteArray) (h0_3a : Option Addr) (h0_3n : Nat) (h0_3c : Nat) (Bh0 : Nat) (Sh0 : Nat → Prop), v0 = .pointer (some ⟨bh0, 0, none⟩) ∧ v1 = .int .i64 q1 ∧ Hid (wq.heap[bh0]? = some (.cells #[.string h0_0, .string h0_1, .string h0_2, .slice h0_3a h0_3n h0_3c] 25 (0, 0))) ∧ Hid (w47.heap.size ≤ bh0) ∧ Hid (K0.O wq Bh0 Sh0 (.agg #[.string h0_0, .string h0_1, .string h0_2, .slice h0_3a h0_3n h0_3c])) ∧ Hid (∀ g, Sh0 g → w47.heap.size ≤ g ∧ g < wq.heap.size ∧ g ≠ bh0) ∧ Hid (Ext w47 wq))
  case first =>
    refine wp_region_held_drew (S := fun W => W.heap[w.heap.size]? = some (.cells #[.string p0_0, .string p0_1, .string p0_2, .slice p0_3a p0_3n p0_3c] 37 (0, 0)) ∧ W.heap[w.heap.size + 1]? = some (.cells #[.int .i64 p1_0, .slice p1_1a p1_1n p1_1c] 38 (0, 0))) (by kernel_rfl) (⟨unhide HB_p0, unhide HB_p1⟩) (fun hHeld => ?_)
    refine wpAnyH_take (i := 0) (v := .agg #[.string p0_0, .string p0_1, .string p0_2, .slice p0_3a p0_3n p0_3c]) rfl (by kernel_rfl) (by kernel_rfl) (by kernel_rfl) (fun _ _ _ h => h) (Or.inl ⟨by rfl, ?_⟩) (by assumption) ?_
    · intro w' hSw; exact yields_load_blk 37 _ rfl (w.heap.size) rfl _ _ _ _ (hSw.1) Tryz.underlying37 rfl (by kernel_rfl)
    simp only [Act.put, List.getElem_toArray, List.getElem_cons_succ, List.getElem_cons_zero, List.setIfInBounds_toArray, List.set_cons_zero, List.set_cons_succ]
    refine wpAnyH_take (i := 2) (v := .agg #[.int .i64 p1_0, .slice p1_1a p1_1n p1_1c]) rfl (by kernel_rfl) (by kernel_rfl) (by kernel_rfl) (fun _ _ _ h => h) (Or.inl ⟨by rfl, ?_⟩) (by assumption) ?_
    · intro w' hSw; exact yields_load_blk 38 _ rfl (w.heap.size + 1) rfl _ _ _ _ (hSw.2) Tryz.underlying38 rfl (by kernel_rfl)
    simp only [Act.put, List.getElem_toArray, List.getElem_cons_succ, List.getElem_cons_zero, List.setIfInBounds_toArray, List.set_cons_zero, List.set_cons_succ]
    have G := hide ((Ext.refl w47).drew)
    generalize w47.drew = Wr0 at *
    refine wpAnyH_ready (rs := [1, 8]) (by kernel_rfl) (by simp) ?_
    refine (AllReadyH.cons rfl (fun K hK => ?_) (AllReadyH.cons rfl (fun K hK => ?_) AllReadyH.nil))
    · go_simp
      refine ((unhide HTo0) _ (E.trans (unhide G))).mono ?_; rintro e Wr1 ⟨u9, S9, rfl, o9, f9⟩; have HR_t0 := hide (X0.reads o9); obtain ⟨t0_0, t0_1, t0_2, t0_3a, t0_3n, t0_3c, rfl⟩ := (unhide ShX0) _ _ (unhide HR_t0); replace G := hide ((unhide G).trans f9); clear o9 f9
      clear hHeld
      refine hK.out _ _ ⟨(unhide G).kept (unhide HB_p0), (unhide G).kept (unhide HB_p1)⟩ (fun hHeld => ?_)
      clear hK K
      refine wpAnyH_ready (rs := [3, 8]) (by kernel_rfl) (by simp) ?_
      refine (AllReadyH.cons rfl (fun K hK => ?_) (AllReadyH.cons rfl (fun K hK => ?_) AllReadyH.nil))
      · go_simp
        refine ((unhide HTo1) _ (E.trans (unhide G))).mono ?_; rintro e Wr2 ⟨u9, S9, rfl, o9, f9⟩; replace HR_t0 := hide (X0.rext (unhide HR_t0) f9); have HR_t1 := hide (X1.reads o9); obtain ⟨t1_0, t1_1a, t1_1n, t1_1c, rfl⟩ := (unhide ShX1) _ _ (unhide HR_t1); replace G := hide ((unhide G).trans f9); clear o9 f9
        clear hHeld
        refine hK.out _ _ ⟨(unhide G).kept (unhide HB_p0), (unhide G).kept (unhide HB_p1)⟩ (fun hHeld => ?_)
        clear hK K
        refine wpAnyH_ready (rs := [4, 8]) (by kernel_rfl) (by simp) ?_
        refine (AllReadyH.cons rfl (fun K hK => ?_) (AllReadyH.cons rfl (fun K hK => ?_) AllReadyH.nil))
        · go_simp
          refine ((unhide HI) _ _ _ (E.trans (unhide G)) (unhide HR_t0) (unhide HR_t1)).mono ?_; rintro e Wr3 ⟨u0, S0, rfl, o0, f9⟩; obtain ⟨h0_0, h0_1, h0_2, h0_3a, h0_3n, h0_3c, rfl⟩ := (unhide ShK0) _ _ (K0.reads o0); have HP0 : Hid (∀ g, S0 g → w47.heap.size ≤ g ∧ g < Wr3.heap.size) := hide (fun g9 h9 => by have h1 := K0.lt o0 g9 h9; have h2 := (unhide G).size; omega); have HOo0 := hide o0; replace G := hide ((unhide G).trans f9); clear f9 o0
          clear hHeld
          refine hK.out _ _ ⟨(unhide G).kept (unhide HB_p0), (unhide G).kept (unhide HB_p1)⟩ (fun hHeld => ?_)
          clear hK K
          refine wpAnyH_take (i := 5) (v := ?_) rfl (by kernel_rfl) (by kernel_rfl) (by kernel_rfl) (fun _ _ _ h => h) (Or.inl ⟨by rfl, ?_⟩) (by assumption) ?_
          rotate_left
          · intro w' hSw; go_simp <;> with_reducible rfl
          simp only [Act.put, List.getElem_toArray, List.getElem_cons_succ, List.getElem_cons_zero, List.setIfInBounds_toArray, List.set_cons_zero, List.set_cons_succ]
          refine wpAnyH_take (i := 6) (v := ?_) rfl (by kernel_rfl) (by kernel_rfl) (by kernel_rfl) (fun _ _ _ h => h) (Or.inl ⟨by rfl, ?_⟩) (by assumption) ?_
          rotate_left
          · intro w' hSw; go_simp <;> with_reducible rfl
          simp only [Act.put, List.getElem_toArray, List.getElem_cons_succ, List.getElem_cons_zero, List.setIfInBounds_toArray, List.set_cons_zero, List.set_cons_succ]
          refine wpAnyH_take (i := 7) (v := ?_) rfl (by kernel_rfl) (by kernel_rfl) (by kernel_rfl) (fun _ _ _ h => h) (Or.inl ⟨by rfl, ?_⟩) (by assumption) ?_
          rotate_left
          · intro w' hSw; go_simp <;> with_reducible rfl
          simp only [Act.put, List.getElem_toArray, List.getElem_cons_succ, List.getElem_cons_zero, List.setIfInBounds_toArray, List.set_cons_zero, List.set_cons_succ]
          refine wpAnyH_ready (rs := [8]) (by kernel_rfl) (by simp) ?_
          refine (AllReadyH.cons rfl (fun K hK => ?_) AllReadyH.nil)
          go_simp
          have n9 := new_block Wr3 (.cells #[.string { data := #[] }, .string { data := #[] }, .string { data := #[] }, .slice none 0 0] 25)
          have f9 := (Ext.refl Wr3).alloc (.cells #[.string { data := #[] }, .string { data := #[] }, .string { data := #[] }, .slice none 0 0] 25)
          generalize Wr3.alloc (.cells #[.string { data := #[] }, .string { data := #[] }, .string { data := #[] }, .slice none 0 0] 25) = Wr4 at n9 f9 ⊢
          have HM_0 := hide n9
          replace HP0 : Hid (∀ g, S0 g → w47.heap.size ≤ g ∧ g < Wr4.heap.size ∧ g ≠ Wr3.heap.size) := hide (fun g9 h9 => by have h1 := (unhide HP0) g9 h9; have h2 := f9.size; omega)
          replace HOo0 := hide (K0.oext (unhide HOo0) f9)
          have LG_0 : Hid (w47.heap.size ≤ Wr3.heap.size) := hide (unhide G).size
          replace G := hide ((unhide G).trans f9)
          clear n9 f9
          clear hHeld
          refine hK.out _ _ ⟨(unhide G).kept (unhide HB_p0), (unhide G).kept (unhide HB_p1)⟩ (fun hHeld => ?_)
          clear hK K
          refine wpAnyH_ready (rs := [9]) (by kernel_rfl) (by simp) ?_
          refine AllReadyH.cons rfl (fun K hK => ?_) AllReadyH.nil
          refine wp_store_blk 25 _ _ rfl rfl (Wr3.heap.size) rfl _ _ #[.string h0_0, .string h0_1, .string h0_2, .slice h0_3a h0_3n h0_3c] rfl (unhide HM_0) (by kernel_rfl) rfl (by simp [Value.oneCell']) ?_
          intro Wr5 hb9 hf9
          replace HM_0 := hide hb9
          replace HOo0 := hide (K0.ofr (unhide HOo0) hf9 (fun g9 h9 e9 => by have h1 := (unhide HP0) g9 h9; omega))
          replace G := hide (hf9.ext (unhide G) (fun q9 h9 => by have h1 := unhide LG_0; omega))
          replace HP0 : Hid (∀ g, S0 g → w47.heap.size ≤ g ∧ g < Wr5.heap.size ∧ g ≠ Wr3.heap.size) := hide (fun g9 h9 => by have h1 := (unhide HP0) g9 h9; have h2 := hf9.size; omega)
          clear hb9 hf9
          clear hHeld
          refine hK.out _ _ ⟨(unhide G).kept (unhide HB_p0), (unhide G).kept (unhide HB_p1)⟩ (fun hHeld => ?_)
          clear hK K
          refine wpAnyH_take (i := 10) (v := ?_) rfl (by kernel_rfl) (by kernel_rfl) (by kernel_rfl) (fun _ _ _ h => h) (Or.inl ⟨by rfl, ?_⟩) (by assumption) ?_
          rotate_left
          · intro w' hSw; go_simp <;> with_reducible rfl
          simp only [Act.put, List.getElem_toArray, List.getElem_cons_succ, List.getElem_cons_zero, List.setIfInBounds_toArray, List.set_cons_zero, List.set_cons_succ]
          refine wpAnyH_done (by kernel_rfl) ?_ _
          go_wp2
          go_meet
          exact ⟨_, _, _, _, _, _, _, _, _, rfl, rfl, HM_0, LG_0, HOo0, HP0, G⟩
        · go_simp
          have n9 := new_block Wr2 (.cells #[.string { data := #[] }, .string { data := #[] }, .string { data := #[] }, .slice none 0 0] 25)
          have f9 := (Ext.refl Wr2).alloc (.cells #[.string { data := #[] }, .string { data := #[] }, .string { data := #[] }, .slice none 0 0] 25)
          generalize Wr2.alloc (.cells #[.string { data := #[] }, .string { data := #[] }, .string { data := #[] }, .slice none 0 0] 25) = Wr6 at n9 f9 ⊢
          have HM_0 := hide n9
          replace HR_t0 := hide (X0.rext (unhide HR_t0) f9)
          replace HR_t1 := hide (X1.rext (unhide HR_t1) f9)
          have LG_0 : Hid (w47.heap.size ≤ Wr2.heap.size) := hide (unhide G).size
          replace G := hide ((unhide G).trans f9)
          clear n9 f9
          clear hHeld
          refine hK.out _ _ ⟨(unhide G).kept (unhide HB_p0), (unhide G).kept (unhide HB_p1)⟩ (fun hHeld => ?_)
          clear hK K
          refine wpAnyH_ready (rs := [4]) (by kernel_rfl) (by simp) ?_
          refine (AllReadyH.cons rfl (fun K hK => ?_) AllReadyH.nil)
          go_simp
          refine ((unhide HI) _ _ _ (E.trans (unhide G)) (unhide HR_t0) (unhide HR_t1)).mono ?_; rintro e Wr7 ⟨u0, S0, rfl, o0, f9⟩; obtain ⟨h0_0, h0_1, h0_2, h0_3a, h0_3n, h0_3c, rfl⟩ := (unhide ShK0) _ _ (K0.reads o0); have HP0 : Hid (∀ g, S0 g → w47.heap.size ≤ g ∧ g < Wr7.heap.size ∧ g ≠ Wr2.heap.size) := hide (fun g9 h9 => by have h1 := K0.lt o0 g9 h9; have h2 := (unhide G).size; have m0 := lt_of_block (unhide HM_0); omega); have HOo0 := hide o0; replace HM_0 := hide (f9.kept (unhide HM_0)); replace G := hide ((unhide G).trans f9); clear f9 o0
          clear hHeld
          refine hK.out _ _ ⟨(unhide G).kept (unhide HB_p0), (unhide G).kept (unhide HB_p1)⟩ (fun hHeld => ?_)
          clear hK K
          refine wpAnyH_take (i := 5) (v := ?_) rfl (by kernel_rfl) (by kernel_rfl) (by kernel_rfl) (fun _ _ _ h => h) (Or.inl ⟨by rfl, ?_⟩) (by assumption) ?_
          rotate_left
          · intro w' hSw; go_simp <;> with_reducible rfl
          simp only [Act.put, List.getElem_toArray, List.getElem_cons_succ, List.getElem_cons_zero, List.setIfInBounds_toArray, List.set_cons_zero, List.set_cons_succ]
          refine wpAnyH_take (i := 6) (v := ?_) rfl (by kernel_rfl) (by kernel_rfl) (by kernel_rfl) (fun _ _ _ h => h) (Or.inl ⟨by rfl, ?_⟩) (by assumption) ?_
          rotate_left
          · intro w' hSw; go_simp <;> with_reducible rfl
          simp only [Act.put, List.getElem_toArray, List.getElem_cons_succ, List.getElem_cons_zero, List.setIfInBounds_toArray, List.set_cons_zero, List.set_cons_succ]
          refine wpAnyH_take (i := 7) (v := ?_) rfl (by kernel_rfl) (by kernel_rfl) (by kernel_rfl) (fun _ _ _ h => h) (Or.inl ⟨by rfl, ?_⟩) (by assumption) ?_
          rotate_left
          · intro w' hSw; go_simp <;> with_reducible rfl
          simp only [Act.put, List.getElem_toArray, List.getElem_cons_succ, List.getElem_cons_zero, List.setIfInBounds_toArray, List.set_cons_zero, List.set_cons_succ]
          refine wpAnyH_ready (rs := [9]) (by kernel_rfl) (by simp) ?_
          refine AllReadyH.cons rfl (fun K hK => ?_) AllReadyH.nil
          refine wp_store_blk 25 _ _ rfl rfl (Wr2.heap.size) rfl _ _ #[.string h0_0, .string h0_1, .string h0_2, .slice h0_3a h0_3n h0_3c] rfl (unhide HM_0) (by kernel_rfl) rfl (by simp [Value.oneCell']) ?_
          intro Wr8 hb9 hf9
          replace HM_0 := hide hb9
          replace HOo0 := hide (K0.ofr (unhide HOo0) hf9 (fun g9 h9 e9 => by have h1 := (unhide HP0) g9 h9; omega))
          replace G := hide (hf9.ext (unhide G) (fun q9 h9 => by have h1 := unhide LG_0; omega))
          replace HP0 : Hid (∀ g, S0 g → w47.heap.size ≤ g ∧ g < Wr8.heap.size ∧ g ≠ Wr2.heap.size) := hide (fun g9 h9 => by have h1 := (unhide HP0) g9 h9; have h2 := hf9.size; omega)
          clear hb9 hf9
          clear hHeld
          refine hK.out _ _ ⟨(unhide G).kept (unhide HB_p0), (unhide G).kept (unhide HB_p1)⟩ (fun hHeld => ?_)
          clear hK K
          refine wpAnyH_take (i := 10) (v := ?_) rfl (by kernel_rfl) (by kernel_rfl) (by kernel_rfl) (fun _ _ _ h => h) (Or.inl ⟨by rfl, ?_⟩) (by assumption) ?_
          rotate_left
          · intro w' hSw; go_simp <;> with_reducible rfl
          simp only [Act.put, List.getElem_toArray, List.getElem_cons_succ, List.getElem_cons_zero, List.setIfInBounds_toArray, List.set_cons_zero, List.set_cons_succ]
          refine wpAnyH_done (by kernel_rfl) ?_ _
          go_wp2
          go_meet
          exact ⟨_, _, _, _, _, _, _, _, _, rfl, rfl, HM_0, LG_0, HOo0, HP0, G⟩
      · go_simp
        have n9 := new_block Wr1 (.cells #[.string { data := #[] }, .string { data := #[] }, .string { data := #[] }, .slice none 0 0] 25)
        have f9 := (Ext.refl Wr1).alloc (.cells #[.string { data := #[] }, .string { data := #[] }, .string { data := #[] }, .slice none 0 0] 25)
        generalize Wr1.alloc (.cells #[.string { data := #[] }, .string { data := #[] }, .string { data := #[] }, .slice none 0 0] 25) = Wr9 at n9 f9 ⊢
        have HM_0 := hide n9
        replace HR_t0 := hide (X0.rext (unhide HR_t0) f9)
        have LG_0 : Hid (w47.heap.size ≤ Wr1.heap.size) := hide (unhide G).size
        replace G := hide ((unhide G).trans f9)
        clear n9 f9
        clear hHeld
        refine hK.out _ _ ⟨(unhide G).kept (unhide HB_p0), (unhide G).kept (unhide HB_p1)⟩ (fun hHeld => ?_)
        clear hK K
        refine wpAnyH_ready (rs := [3]) (by kernel_rfl) (by simp) ?_
        refine (AllReadyH.cons rfl (fun K hK => ?_) AllReadyH.nil)
        go_simp
        refine ((unhide HTo1) _ (E.trans (unhide G))).mono ?_; rintro e Wr10 ⟨u9, S9, rfl, o9, f9⟩; replace HM_0 := hide (f9.kept (unhide HM_0)); replace HR_t0 := hide (X0.rext (unhide HR_t0) f9); have HR_t1 := hide (X1.reads o9); obtain ⟨t1_0, t1_1a, t1_1n, t1_1c, rfl⟩ := (unhide ShX1) _ _ (unhide HR_t1); replace G := hide ((unhide G).trans f9); clear o9 f9
        clear hHeld
        refine hK.out _ _ ⟨(unhide G).kept (unhide HB_p0), (unhide G).kept (unhide HB_p1)⟩ (fun hHeld => ?_)
        clear hK K
        refine wpAnyH_ready (rs := [4]) (by kernel_rfl) (by simp) ?_
        refine (AllReadyH.cons rfl (fun K hK => ?_) AllReadyH.nil)
        go_simp
        refine ((unhide HI) _ _ _ (E.trans (unhide G)) (unhide HR_t0) (unhide HR_t1)).mono ?_; rintro e Wr11 ⟨u0, S0, rfl, o0, f9⟩; obtain ⟨h0_0, h0_1, h0_2, h0_3a, h0_3n, h0_3c, rfl⟩ := (unhide ShK0) _ _ (K0.reads o0); have HP0 : Hid (∀ g, S0 g → w47.heap.size ≤ g ∧ g < Wr11.heap.size ∧ g ≠ Wr1.heap.size) := hide (fun g9 h9 => by have h1 := K0.lt o0 g9 h9; have h2 := (unhide G).size; have m0 := lt_of_block (unhide HM_0); omega); have HOo0 := hide o0; replace HM_0 := hide (f9.kept (unhide HM_0)); replace G := hide ((unhide G).trans f9); clear f9 o0
        clear hHeld
        refine hK.out _ _ ⟨(unhide G).kept (unhide HB_p0), (unhide G).kept (unhide HB_p1)⟩ (fun hHeld => ?_)
        clear hK K
        refine wpAnyH_take (i := 5) (v := ?_) rfl (by kernel_rfl) (by kernel_rfl) (by kernel_rfl) (fun _ _ _ h => h) (Or.inl ⟨by rfl, ?_⟩) (by assumption) ?_
        rotate_left
        · intro w' hSw; go_simp <;> with_reducible rfl
        simp only [Act.put, List.getElem_toArray, List.getElem_cons_succ, List.getElem_cons_zero, List.setIfInBounds_toArray, List.set_cons_zero, List.set_cons_succ]
        refine wpAnyH_take (i := 6) (v := ?_) rfl (by kernel_rfl) (by kernel_rfl) (by kernel_rfl) (fun _ _ _ h => h) (Or.inl ⟨by rfl, ?_⟩) (by assumption) ?_
        rotate_left
        · intro w' hSw; go_simp <;> with_reducible rfl
        simp only [Act.put, List.getElem_toArray, List.getElem_cons_succ, List.getElem_cons_zero, List.setIfInBounds_toArray, List.set_cons_zero, List.set_cons_succ]
        refine wpAnyH_take (i := 7) (v := ?_) rfl (by kernel_rfl) (by kernel_rfl) (by kernel_rfl) (fun _ _ _ h => h) (Or.inl ⟨by rfl, ?_⟩) (by assumption) ?_
        rotate_left
        · intro w' hSw; go_simp <;> with_reducible rfl
        simp only [Act.put, List.getElem_toArray, List.getElem_cons_succ, List.getElem_cons_zero, List.setIfInBounds_toArray, List.set_cons_zero, List.set_cons_succ]
        refine wpAnyH_ready (rs := [9]) (by kernel_rfl) (by simp) ?_
        refine AllReadyH.cons rfl (fun K hK => ?_) AllReadyH.nil
        refine wp_store_blk 25 _ _ rfl rfl (Wr1.heap.size) rfl _ _ #[.string h0_0, .string h0_1, .string h0_2, .slice h0_3a h0_3n h0_3c] rfl (unhide HM_0) (by kernel_rfl) rfl (by simp [Value.oneCell']) ?_
        intro Wr12 hb9 hf9
        replace HM_0 := hide hb9
        replace HOo0 := hide (K0.ofr (unhide HOo0) hf9 (fun g9 h9 e9 => by have h1 := (unhide HP0) g9 h9; omega))
        replace G := hide (hf9.ext (unhide G) (fun q9 h9 => by have h1 := unhide LG_0; omega))
        replace HP0 : Hid (∀ g, S0 g → w47.heap.size ≤ g ∧ g < Wr12.heap.size ∧ g ≠ Wr1.heap.size) := hide (fun g9 h9 => by have h1 := (unhide HP0) g9 h9; have h2 := hf9.size; omega)
        clear hb9 hf9
        clear hHeld
        refine hK.out _ _ ⟨(unhide G).kept (unhide HB_p0), (unhide G).kept (unhide HB_p1)⟩ (fun hHeld => ?_)
        clear hK K
        refine wpAnyH_take (i := 10) (v := ?_) rfl (by kernel_rfl) (by kernel_rfl) (by kernel_rfl) (fun _ _ _ h => h) (Or.inl ⟨by rfl, ?_⟩) (by assumption) ?_
        rotate_left
        · intro w' hSw; go_simp <;> with_reducible rfl
        simp only [Act.put, List.getElem_toArray, List.getElem_cons_succ, List.getElem_cons_zero, List.setIfInBounds_toArray, List.set_cons_zero, List.set_cons_succ]
        refine wpAnyH_done (by kernel_rfl) ?_ _
        go_wp2
        go_meet
        exact ⟨_, _, _, _, _, _, _, _, _, rfl, rfl, HM_0, LG_0, HOo0, HP0, G⟩
    · go_simp
      have n9 := new_block Wr0 (.cells #[.string { data := #[] }, .string { data := #[] }, .string { data := #[] }, .slice none 0 0] 25)
      have f9 := (Ext.refl Wr0).alloc (.cells #[.string { data := #[] }, .string { data := #[] }, .string { data := #[] }, .slice none 0 0] 25)
      generalize Wr0.alloc (.cells #[.string { data := #[] }, .string { data := #[] }, .string { data := #[] }, .slice none 0 0] 25) = Wr13 at n9 f9 ⊢
      have HM_0 := hide n9
      have LG_0 : Hid (w47.heap.size ≤ Wr0.heap.size) := hide (unhide G).size
      replace G := hide ((unhide G).trans f9)
      clear n9 f9
      clear hHeld
      refine hK.out _ _ ⟨(unhide G).kept (unhide HB_p0), (unhide G).kept (unhide HB_p1)⟩ (fun hHeld => ?_)
      clear hK K
      refine wpAnyH_ready (rs := [1]) (by kernel_rfl) (by simp) ?_
      refine (AllReadyH.cons rfl (fun K hK => ?_) AllReadyH.nil)
      go_simp
      refine ((unhide HTo0) _ (E.trans (unhide G))).mono ?_; rintro e Wr14 ⟨u9, S9, rfl, o9, f9⟩; replace HM_0 := hide (f9.kept (unhide HM_0)); have HR_t0 := hide (X0.reads o9); obtain ⟨t0_0, t0_1, t0_2, t0_3a, t0_3n, t0_3c, rfl⟩ := (unhide ShX0) _ _ (unhide HR_t0); replace G := hide ((unhide G).trans f9); clear o9 f9
      clear hHeld
      refine hK.out _ _ ⟨(unhide G).kept (unhide HB_p0), (unhide G).kept (unhide HB_p1)⟩ (fun hHeld => ?_)
      clear hK K
      refine wpAnyH_ready (rs := [3]) (by kernel_rfl) (by simp) ?_
      refine (AllReadyH.cons rfl (fun K hK => ?_) AllReadyH.nil)
      go_simp
      refine ((unhide HTo1) _ (E.trans (unhide G))).mono ?_; rintro e Wr15 ⟨u9, S9, rfl, o9, f9⟩; replace HM_0 := hide (f9.kept (unhide HM_0)); replace HR_t0 := hide (X0.rext (unhide HR_t0) f9); have HR_t1 := hide (X1.reads o9); obtain ⟨t1_0, t1_1a, t1_1n, t1_1c, rfl⟩ := (unhide ShX1) _ _ (unhide HR_t1); replace G := hide ((unhide G).trans f9); clear o9 f9
      clear hHeld
      refine hK.out _ _ ⟨(unhide G).kept (unhide HB_p0), (unhide G).kept (unhide HB_p1)⟩ (fun hHeld => ?_)
      clear hK K
      refine wpAnyH_ready (rs := [4]) (by kernel_rfl) (by simp) ?_
      refine (AllReadyH.cons rfl (fun K hK => ?_) AllReadyH.nil)
      go_simp
      refine ((unhide HI) _ _ _ (E.trans (unhide G)) (unhide HR_t0) (unhide HR_t1)).mono ?_; rintro e Wr16 ⟨u0, S0, rfl, o0, f9⟩; obtain ⟨h0_0, h0_1, h0_2, h0_3a, h0_3n, h0_3c, rfl⟩ := (unhide ShK0) _ _ (K0.reads o0); have HP0 : Hid (∀ g, S0 g → w47.heap.size ≤ g ∧ g < Wr16.heap.size ∧ g ≠ Wr0.heap.size) := hide (fun g9 h9 => by have h1 := K0.lt o0 g9 h9; have h2 := (unhide G).size; have m0 := lt_of_block (unhide HM_0); omega); have HOo0 := hide o0; replace HM_0 := hide (f9.kept (unhide HM_0)); replace G := hide ((unhide G).trans f9); clear f9 o0
      clear hHeld
      refine hK.out _ _ ⟨(unhide G).kept (unhide HB_p0), (unhide G).kept (unhide HB_p1)⟩ (fun hHeld => ?_)
      clear hK K
      refine wpAnyH_take (i := 5) (v := ?_) rfl (by kernel_rfl) (by kernel_rfl) (by kernel_rfl) (fun _ _ _ h => h) (Or.inl ⟨by rfl, ?_⟩) (by assumption) ?_
      rotate_left
      · intro w' hSw; go_simp <;> with_reducible rfl
      simp only [Act.put, List.getElem_toArray, List.getElem_cons_succ, List.getElem_cons_zero, List.setIfInBounds_toArray, List.set_cons_zero, List.set_cons_succ]
      refine wpAnyH_take (i := 6) (v := ?_) rfl (by kernel_rfl) (by kernel_rfl) (by kernel_rfl) (fun _ _ _ h => h) (Or.inl ⟨by rfl, ?_⟩) (by assumption) ?_
      rotate_left
      · intro w' hSw; go_simp <;> with_reducible rfl
      simp only [Act.put, List.getElem_toArray, List.getElem_cons_succ, List.getElem_cons_zero, List.setIfInBounds_toArray, List.set_cons_zero, List.set_cons_succ]
      refine wpAnyH_take (i := 7) (v := ?_) rfl (by kernel_rfl) (by kernel_rfl) (by kernel_rfl) (fun _ _ _ h => h) (Or.inl ⟨by rfl, ?_⟩) (by assumption) ?_
      rotate_left
      · intro w' hSw; go_simp <;> with_reducible rfl
      simp only [Act.put, List.getElem_toArray, List.getElem_cons_succ, List.getElem_cons_zero, List.setIfInBounds_toArray, List.set_cons_zero, List.set_cons_succ]
      refine wpAnyH_ready (rs := [9]) (by kernel_rfl) (by simp) ?_
      refine AllReadyH.cons rfl (fun K hK => ?_) AllReadyH.nil
      refine wp_store_blk 25 _ _ rfl rfl (Wr0.heap.size) rfl _ _ #[.string h0_0, .string h0_1, .string h0_2, .slice h0_3a h0_3n h0_3c] rfl (unhide HM_0) (by kernel_rfl) rfl (by simp [Value.oneCell']) ?_
      intro Wr17 hb9 hf9
      replace HM_0 := hide hb9
      replace HOo0 := hide (K0.ofr (unhide HOo0) hf9 (fun g9 h9 e9 => by have h1 := (unhide HP0) g9 h9; omega))
      replace G := hide (hf9.ext (unhide G) (fun q9 h9 => by have h1 := unhide LG_0; omega))
      replace HP0 : Hid (∀ g, S0 g → w47.heap.size ≤ g ∧ g < Wr17.heap.size ∧ g ≠ Wr0.heap.size) := hide (fun g9 h9 => by have h1 := (unhide HP0) g9 h9; have h2 := hf9.size; omega)
      clear hb9 hf9
      clear hHeld
      refine hK.out _ _ ⟨(unhide G).kept (unhide HB_p0), (unhide G).kept (unhide HB_p1)⟩ (fun hHeld => ?_)
      clear hK K
      refine wpAnyH_take (i := 10) (v := ?_) rfl (by kernel_rfl) (by kernel_rfl) (by kernel_rfl) (fun _ _ _ h => h) (Or.inl ⟨by rfl, ?_⟩) (by assumption) ?_
      rotate_left
      · intro w' hSw; go_simp <;> with_reducible rfl
      simp only [Act.put, List.getElem_toArray, List.getElem_cons_succ, List.getElem_cons_zero, List.setIfInBounds_toArray, List.set_cons_zero, List.set_cons_succ]
      refine wpAnyH_done (by kernel_rfl) ?_ _
      go_wp2
      go_meet
      exact ⟨_, _, _, _, _, _, _, _, _, rfl, rfl, HM_0, LG_0, HOo0, HP0, G⟩
  case rest =>
  rename World => w50
  obtain ⟨bh0, h0_0, h0_1, h0_2, h0_3a, h0_3n, h0_3c, Bh0, Sh0, rfl, rfl, HB_h0, HG_h0, HO_h0, HL_h0, HE9⟩ := hcut
  have hz_h0 := hide (lt_of_block (unhide HB_h0))
  have hs51 := hide ((unhide HE9)).size
  replace E := E.trans (unhide HE9)
  replace HB_p0 := hide (((unhide HE9)).kept (unhide HB_p0))
  replace HB_p1 := hide (((unhide HE9)).kept (unhide HB_p1))
  replace HB_w0 := hide (((unhide HE9)).kept (unhide HB_w0))
  replace HB_g0 := hide (((unhide HE9)).kept (unhide HB_g0))
  replace HO_g0 := hide ((MK0 (1)).oext (unhide HO_g0) (unhide HE9))
  replace HEw := hide ((unhide HEw).trans (unhide HE9))
  clear HE9
  have c_h0_0 : w50.cell? ⟨bh0, 0, none⟩ = some (.string h0_0) := cells_of (unhide HB_h0) 0 _ rfl
  have c_h0_1 : w50.cell? ⟨bh0, 1, none⟩ = some (.string h0_1) := cells_of (unhide HB_h0) 1 _ rfl
  have c_h0_2 : w50.cell? ⟨bh0, 2, none⟩ = some (.string h0_2) := cells_of (unhide HB_h0) 2 _ rfl
  have c_h0_3 : w50.cell? ⟨bh0, 3, none⟩ = some (.slice h0_3a h0_3n h0_3c) := cells_of (unhide HB_h0) 3 _ rfl
  have c_w0_0 : w50.cell? ⟨bw0, 0, none⟩ = some (.string w0_0) := cells_of (unhide HB_w0) 0 _ rfl
  have c_w0_1 : w50.cell? ⟨bw0, 1, none⟩ = some (.string w0_1) := cells_of (unhide HB_w0) 1 _ rfl
  have c_w0_2 : w50.cell? ⟨bw0, 2, none⟩ = some (.string w0_2) := cells_of (unhide HB_w0) 2 _ rfl
  have c_w0_3 : w50.cell? ⟨bw0, 3, none⟩ = some (.slice w0_3a w0_3n w0_3c) := cells_of (unhide HB_w0) 3 _ rfl
  go_wp2_with fail
  clear c_h0_0 c_h0_1 c_h0_2 c_h0_3 c_w0_0 c_w0_1 c_w0_2 c_w0_3
  refine ((unhide HEqK0) _ _ _ (K0.reads (unhide HO_h0)) (K0.rext (unhide HR_w0) (unhide HEw))).mono ?_
  rintro e w52 ⟨rfl, F53⟩
  have hs54 := hide (F53).size
  replace E := E.trans F53
  replace HB_p0 := hide ((F53).kept (unhide HB_p0))
  replace HB_p1 := hide ((F53).kept (unhide HB_p1))
  replace HB_w0 := hide ((F53).kept (unhide HB_w0))
  replace HB_g0 := hide ((F53).kept (unhide HB_g0))
  replace HB_h0 := hide ((F53).kept (unhide HB_h0))
  replace HO_g0 := hide ((MK0 (1)).oext (unhide HO_g0) F53)
  replace HO_h0 := hide (K0.oext (unhide HO_h0) F53)
  replace HEw := hide ((unhide HEw).trans F53)
  have hq0 : ¬ (1 + (mK0 : Int) : Int) < 0 := by omega
  have c_g0_0 : w52.cell? ⟨w19.heap.size, 0, none⟩ = some (.string g0_0) := cells_of (unhide HB_g0) 0 _ rfl
  have c_g0_1 : w52.cell? ⟨w19.heap.size, 1, none⟩ = some (.string g0_1) := cells_of (unhide HB_g0) 1 _ rfl
  have c_g0_2 : w52.cell? ⟨w19.heap.size, 2, none⟩ = some (.string g0_2) := cells_of (unhide HB_g0) 2 _ rfl
  have c_g0_3 : w52.cell? ⟨w19.heap.size, 3, none⟩ = some (.slice g0_3a g0_3n g0_3c) := cells_of (unhide HB_g0) 3 _ rfl
  go_wp2_with fail
  clear c_g0_0 c_g0_1 c_g0_2 c_g0_3
  refine ((unhide HHdK0) _ _ _ ((MK0 (1)).reads (unhide HO_g0)) (by omega) (by omega)).mono ?_
  rintro e w55 ⟨rfl, F56⟩
  have hs57 := hide (F56).size
  replace E := E.trans F56
  replace HB_p0 := hide ((F56).kept (unhide HB_p0))
  replace HB_p1 := hide ((F56).kept (unhide HB_p1))
  replace HB_w0 := hide ((F56).kept (unhide HB_w0))
  replace HB_g0 := hide ((F56).kept (unhide HB_g0))
  replace HB_h0 := hide ((F56).kept (unhide HB_h0))
  replace HO_g0 := hide ((MK0 (1)).oext (unhide HO_g0) F56)
  replace HO_h0 := hide (K0.oext (unhide HO_h0) F56)
  replace HEw := hide ((unhide HEw).trans F56)
  go_wp2
  go_ret
  exact ⟨rfl, E.below⟩
end Go.Proofs.YtokjpnlmkecleaaGreatDoor
