import Derived.Test.YtgdadidppelgdaaGreatDoorWhole
import Derived.Deep.RegionLaw
import Derived.Deep.RegionHeld3
namespace Go.Proofs.YtgdadidppelgdaaGreatDoor
open Go.RowKit

theorem infoSessionimplContinue : (Tryz.prog.info? 37).map (·.size) = some 17 := by kernel_rfl
theorem infoSessionlawsContinue : (Tryz.prog.info? 30).map (·.size) = some 17 := by kernel_rfl
set_option linter.unusedSimpArgs false in
set_option maxRecDepth 10000 in
set_option maxHeartbeats 8000000 in
theorem law_Continue (p0_cs : Array Value) (q2 : Int) (w : World)
    (Hz_p0_cs : Hid (p0_cs.size = 17))
    (X0 : Kd) (MX0 : Int → Kd) (mX0 : Nat)
    (K0 : Kd) (MK0 : Int → Kd) (mK0 : Nat)
    (K1 : Kd) (MK1 : Int → Kd) (mK1 : Nat)
    (Fit : Prop)
    (HZ : Hid (∀ W, Ext w W → Calls Tryz.prog 6 #[.agg p0_cs, .int .i64 1048576] W fun e w' => ∃ r : Int, e = .returned (.int .i64 r) ∧ (0 ≤ r → Fit) ∧ Ext W w'))
    (HTo0' : Hid (Fit → ∀ W, Ext w W → Calls Tryz.prog 8 #[.agg p0_cs] W fun e w' => ∃ u S, e = .returned u ∧ X0.O w' W.heap.size S u ∧ Ext W w'))
    (ShX0 : Hid (∀ W u, X0.R W u → ∃ (x : Array Value), u = .agg x ∧ x.size = 17 ∧ x.all (·.oneCell') = true))
    (HEqX0' : Hid (Fit → EqOk 10 X0)) (HMkX0' : Hid (Fit → MarkOk 12 X0 MX0 mX0 ∧ mX0 ≤ 17179869184))
    (HS' : Hid (Fit → ∀ (W : World) (u0 : Value), Ext w W → X0.R W u0 → Calls Tryz.prog 16 #[u0] W fun e w' => ∃ v0 v1, e = .returned (.tuple #[v0, v1, .int .i64 q2]) ∧ K0.R w' v0 ∧ K1.R w' v1 ∧ Ext W w'))
    (HI' : Hid (Fit → ∀ (W : World) (u0 : Value), Ext w W → X0.R W u0 → Calls Tryz.prog 17 #[u0] W fun e w' => ∃ v0 S0 v1 S1, e = .returned (.tuple #[v0, v1, .int .i64 q2]) ∧ K0.O w' W.heap.size S0 v0 ∧ K1.O w' W.heap.size S1 v1 ∧ (∀ g, S0 g → ¬ S1 g) ∧ Ext W w'))
    (ShK0 : Hid (∀ W u, K0.R W u → ∃ (x : Array Value), u = .agg x ∧ x.size = 17 ∧ x.all (·.oneCell') = true))
    (HEqK0' : Hid (Fit → EqOk 10 K0)) (HMkK0' : Hid (Fit → MarkOk 12 K0 MK0 mK0 ∧ mK0 ≤ 17179869184)) (HHdK0' : Hid (Fit → HeldOk 14 MK0 mK0))
    (ShK1 : Hid (∀ W u, K1.R W u → ∃ (xa : Option Addr) (xn : Nat) (xc : Nat), u = .slice xa xn xc))
    (HEqK1' : Hid (Fit → EqOk 11 K1)) (HMkK1' : Hid (Fit → MarkOk 13 K1 MK1 mK1 ∧ mK1 ≤ 17179869184)) (HHdK1' : Hid (Fit → HeldOk 15 MK1 mK1))
    : Calls Tryz.prog 4 #[.agg p0_cs] w fun e w' => e = .returned (.bool true) ∧ Below w.heap.size w w' := by
  go_enter Tryz.func4, Tryz.ntmps4
  go_wp2_with (refine wpList_load_blk rfl 30 _ rfl (w.heap.size) rfl _ _ _ _ (new_block w _) Tryz.underlying30 rfl (by rw [unhide Hz_p0_cs]; exact infoSessionlawsContinue) ?_)
  obtain ⟨W0, hW0⟩ : ∃ W0, W0 = w.alloc (.cells p0_cs 30) := ⟨_, rfl⟩
  rw [← hW0]
  have E : Ext w W0 := by rw [hW0]; exact (Ext.refl w).alloc _
  have HB_p : Hid (W0.heap[w.heap.size]? = some (.cells p0_cs 30 (0, 0))) := hide (by rw [hW0]; exact new_block w _)
  have hzW0 := hide (lt_of_block (unhide HB_p))
  clear hW0
  refine ((unhide HZ) _ E).mono ?_
  rintro e w1 ⟨r, rfl, hr, F1⟩
  have hs2 := hide (F1).size
  replace E := E.trans F1
  replace HB_p := hide ((F1).kept (unhide HB_p))
  by_cases hr0 : r < 0
  · go_wp2
    go_ret
    exact ⟨rfl, E.below⟩
  have hfit : Fit := hr (by omega)
  clear hr HZ
  have HTo0 := hide ((unhide HTo0') hfit)
  have HEqX0 := hide ((unhide HEqX0') hfit)
  have HMkX0 := hide ((unhide HMkX0') hfit).1
  have hmX0 := ((unhide HMkX0') hfit).2
  clear HMkX0'
  clear HTo0' HEqX0'
  have HEqK0 := hide ((unhide HEqK0') hfit)
  have HMkK0 := hide ((unhide HMkK0') hfit).1
  have hmK0 := ((unhide HMkK0') hfit).2
  have HHdK0 := hide ((unhide HHdK0') hfit)
  clear HEqK0' HMkK0' HHdK0'
  have HEqK1 := hide ((unhide HEqK1') hfit)
  have HMkK1 := hide ((unhide HMkK1') hfit).1
  have hmK1 := ((unhide HMkK1') hfit).2
  have HHdK1 := hide ((unhide HHdK1') hfit)
  clear HEqK1' HMkK1' HHdK1'
  have HS := hide ((unhide HS') hfit)
  have HI := hide ((unhide HI') hfit)
  clear HS' HI' hfit
  go_wp2_with (refine wpList_load_blk rfl 30 _ rfl (w.heap.size) rfl _ _ _ _ (unhide HB_p) Tryz.underlying30 rfl (by rw [unhide Hz_p0_cs]; exact infoSessionlawsContinue) ?_)
  refine ((unhide HTo0) _ E).mono ?_
  rintro e w3 ⟨ut0, St0, rfl, ot0, F4⟩
  have HL_t0 : Hid (∀ g, St0 g → w1.heap.size ≤ g ∧ g < w3.heap.size) := hide (X0.lt ot0)
  have hs5 := hide (F4).size
  replace E := E.trans F4
  replace HB_p := hide ((F4).kept (unhide HB_p))
  obtain ⟨t0_cs, rfl, hz9, ho9⟩ := (unhide ShX0) _ _ (X0.reads ot0)
  have Hz_t0_cs := hide hz9
  have Ho_t0_cs := hide ho9
  clear hz9 ho9
  have HO_t0 := hide ot0
  clear ot0
  go_wp2_with fail
  refine ((unhide HS) _ _ E (X0.reads (unhide HO_t0))).mono ?_
  rintro e w6 ⟨uw0, uw1, rfl, rw0, rw1, F7⟩
  have hs8 := hide (F7).size
  replace E := E.trans F7
  replace HB_p := hide ((F7).kept (unhide HB_p))
  replace HO_t0 := hide (X0.oext (unhide HO_t0) F7)
  obtain ⟨w0_cs, rfl, hz9, ho9⟩ := (unhide ShK0) _ _ rw0
  have Hz_w0_cs := hide hz9
  have Ho_w0_cs := hide ho9
  clear hz9 ho9
  have HR_w0 := hide rw0
  clear rw0
  obtain ⟨w1_a, w1_n, w1_c, rfl⟩ := (unhide ShK1) _ _ rw1
  have HR_w1 := hide rw1
  clear rw1
  have HEw := hide (Ext.refl w6)
  clear HO_t0
  go_wp2_with (first | (refine wpList_store_blk rfl 37 _ _ rfl rfl (w6.heap.size) rfl _ _ _ rfl (new_block w6 _) (by rw [unhide Hz_w0_cs]; exact infoSessionimplContinue) (by rw [unhide Hz_w0_cs]; rfl) (unhide Ho_w0_cs) ?_; intro V9 hb9 hf9; have FV9 := hide (hf9.ext ((Ext.refl w6).alloc _) (fun q9 h9 => by omega)); have HB_w0 := hide hb9; clear hb9 hf9) | (refine wpList_load_blk rfl 30 _ rfl (w.heap.size) rfl _ _ _ _ ((unhide FV9).kept (unhide HB_p)) Tryz.underlying30 rfl (by rw [unhide Hz_p0_cs]; exact infoSessionlawsContinue) ?_))
  have hzV9 := hide (lt_of_block (unhide HB_w0))
  have hs10 := hide ((unhide FV9)).size
  replace E := E.trans (unhide FV9)
  replace HB_p := hide (((unhide FV9)).kept (unhide HB_p))
  replace HEw := hide ((unhide HEw).trans (unhide FV9))
  refine ((unhide HTo0) _ E).mono ?_
  rintro e w11 ⟨ux0, Sx0, rfl, ox0, F12⟩
  have HL_x0 : Hid (∀ g, Sx0 g → V9.heap.size ≤ g ∧ g < w11.heap.size) := hide (X0.lt ox0)
  have hs13 := hide (F12).size
  replace E := E.trans F12
  replace HB_p := hide ((F12).kept (unhide HB_p))
  replace HB_w0 := hide ((F12).kept (unhide HB_w0))
  replace HEw := hide ((unhide HEw).trans F12)
  obtain ⟨x0_cs, rfl, hz9, ho9⟩ := (unhide ShX0) _ _ (X0.reads ox0)
  have Hz_x0_cs := hide hz9
  have Ho_x0_cs := hide ho9
  clear hz9 ho9
  have HO_x0 := hide ox0
  clear ox0
  go_wp2_with (first | (refine wpList_store_blk rfl 37 _ _ rfl rfl (w11.heap.size) rfl _ _ _ rfl (new_block w11 _) (by rw [unhide Hz_x0_cs]; exact infoSessionimplContinue) (by rw [unhide Hz_x0_cs]; rfl) (unhide Ho_x0_cs) ?_; intro V14 hb9 hf9; have FV14 := hide (hf9.ext ((Ext.refl w11).alloc _) (fun q9 h9 => by omega)); have HB_x0 := hide hb9; clear hb9 hf9) | (refine wpList_load_blk rfl 37 _ rfl (w11.heap.size) rfl _ _ _ _ (unhide HB_x0) Tryz.underlying37 rfl (by rw [unhide Hz_x0_cs]; exact infoSessionimplContinue) ?_))
  have hzV14 := hide (lt_of_block (unhide HB_x0))
  have hs15 := hide ((unhide FV14)).size
  replace E := E.trans (unhide FV14)
  replace HB_p := hide (((unhide FV14)).kept (unhide HB_p))
  replace HB_w0 := hide (((unhide FV14)).kept (unhide HB_w0))
  replace HO_x0 := hide (X0.oext (unhide HO_x0) (unhide FV14))
  replace HEw := hide ((unhide HEw).trans (unhide FV14))
  refine ((unhide HI) _ _ E (X0.reads (unhide HO_x0))).mono ?_
  rintro e w16 ⟨ug0, Sg0, ug1, Sg1, rfl, og0, og1, ag01, F17⟩
  have HL_g0 : Hid (∀ g, Sg0 g → V14.heap.size ≤ g ∧ g < w16.heap.size) := hide (K0.lt og0)
  have HL_g1 : Hid (∀ g, Sg1 g → V14.heap.size ≤ g ∧ g < w16.heap.size) := hide (K1.lt og1)
  have HD_g0_g1 := hide ag01
  clear ag01
  have hs18 := hide (F17).size
  replace E := E.trans F17
  replace HB_p := hide ((F17).kept (unhide HB_p))
  replace HB_w0 := hide ((F17).kept (unhide HB_w0))
  replace HB_x0 := hide ((F17).kept (unhide HB_x0))
  replace HO_x0 := hide (X0.oext (unhide HO_x0) F17)
  replace HEw := hide ((unhide HEw).trans F17)
  obtain ⟨g0_cs, rfl, hz9, ho9⟩ := (unhide ShK0) _ _ (K0.reads og0)
  have Hz_g0_cs := hide hz9
  have Ho_g0_cs := hide ho9
  clear hz9 ho9
  have HO_g0 := hide og0
  clear og0
  obtain ⟨g1_a, g1_n, g1_c, rfl⟩ := (unhide ShK1) _ _ (K1.reads og1)
  have HO_g1 := hide og1
  clear og1
  go_wp2_with (first | (refine wpList_store_blk rfl 37 _ _ rfl rfl (w16.heap.size) rfl _ _ _ rfl (new_block w16 _) (by rw [unhide Hz_g0_cs]; exact infoSessionimplContinue) (by rw [unhide Hz_g0_cs]; rfl) (unhide Ho_g0_cs) ?_; intro V19 hb9 hf9; have FV19 := hide (hf9.ext ((Ext.refl w16).alloc _) (fun q9 h9 => by omega)); have HB_g0 := hide hb9; clear hb9 hf9) | (refine wpList_load_blk rfl 37 _ rfl (w16.heap.size) rfl _ _ _ _ (unhide HB_g0) Tryz.underlying37 rfl (by rw [unhide Hz_g0_cs]; exact infoSessionimplContinue) ?_) | (refine wpList_load_blk rfl 37 _ rfl (w6.heap.size) rfl _ _ _ _ ((unhide FV19).kept (unhide HB_w0)) Tryz.underlying37 rfl (by rw [unhide Hz_w0_cs]; exact infoSessionimplContinue) ?_))
  have hzV19 := hide (lt_of_block (unhide HB_g0))
  have hs20 := hide ((unhide FV19)).size
  replace E := E.trans (unhide FV19)
  replace HB_p := hide (((unhide FV19)).kept (unhide HB_p))
  replace HB_w0 := hide (((unhide FV19)).kept (unhide HB_w0))
  replace HB_x0 := hide (((unhide FV19)).kept (unhide HB_x0))
  replace HO_x0 := hide (X0.oext (unhide HO_x0) (unhide FV19))
  replace HO_g0 := hide (K0.oext (unhide HO_g0) (unhide FV19))
  replace HO_g1 := hide (K1.oext (unhide HO_g1) (unhide FV19))
  replace HEw := hide ((unhide HEw).trans (unhide FV19))
  refine ((unhide HEqK0) _ _ _ (K0.reads (unhide HO_g0)) (K0.rext (unhide HR_w0) (unhide HEw))).mono ?_
  rintro e w21 ⟨rfl, F22⟩
  have hs23 := hide (F22).size
  replace E := E.trans F22
  replace HB_p := hide ((F22).kept (unhide HB_p))
  replace HB_w0 := hide ((F22).kept (unhide HB_w0))
  replace HB_x0 := hide ((F22).kept (unhide HB_x0))
  replace HB_g0 := hide ((F22).kept (unhide HB_g0))
  replace HO_x0 := hide (X0.oext (unhide HO_x0) F22)
  replace HO_g0 := hide (K0.oext (unhide HO_g0) F22)
  replace HO_g1 := hide (K1.oext (unhide HO_g1) F22)
  replace HEw := hide ((unhide HEw).trans F22)
  go_wp2_with (first | (refine wpList_load_blk rfl 37 _ rfl (w16.heap.size) rfl _ _ _ _ (unhide HB_g0) Tryz.underlying37 rfl (by rw [unhide Hz_g0_cs]; exact infoSessionimplContinue) ?_) | (refine wpList_load_blk rfl 37 _ rfl (w6.heap.size) rfl _ _ _ _ (unhide HB_w0) Tryz.underlying37 rfl (by rw [unhide Hz_w0_cs]; exact infoSessionimplContinue) ?_))
  refine ((unhide HEqK1) _ _ _ (K1.reads (unhide HO_g1)) (K1.rext (unhide HR_w1) (unhide HEw))).mono ?_
  rintro e w24 ⟨rfl, F25⟩
  have hs26 := hide (F25).size
  replace E := E.trans F25
  replace HB_p := hide ((F25).kept (unhide HB_p))
  replace HB_w0 := hide ((F25).kept (unhide HB_w0))
  replace HB_x0 := hide ((F25).kept (unhide HB_x0))
  replace HB_g0 := hide ((F25).kept (unhide HB_g0))
  replace HO_x0 := hide (X0.oext (unhide HO_x0) F25)
  replace HO_g0 := hide (K0.oext (unhide HO_g0) F25)
  replace HO_g1 := hide (K1.oext (unhide HO_g1) F25)
  replace HEw := hide ((unhide HEw).trans F25)
  go_wp2
  have HTt := hide (fun U (hU : Ext w24 U) => (unhide HTo0) U (E.trans hU))
  refine wp_region_held_drew (S := fun W => W.heap[w11.heap.size]? = some (.cells x0_cs 37 (0, 0)) ∧ W.heap[w.heap.size]? = some (.cells p0_cs 30 (0, 0))) (by kernel_rfl) ⟨unhide HB_x0, unhide HB_p⟩ (fun hHeld => ?_)
  refine wpAnyH_take (i := 0) (v := .agg x0_cs) rfl (by kernel_rfl) (by kernel_rfl) (by kernel_rfl) (fun _ _ _ h => h) (Or.inl ⟨by rfl, ?_⟩) (by assumption) ?_
  · intro w' hSw; exact yields_load_blk 37 _ rfl (w11.heap.size) rfl _ _ _ _ hSw.1 Tryz.underlying37 rfl (by rw [unhide Hz_x0_cs]; exact infoSessionimplContinue)
  simp only [Act.put, List.getElem_toArray, List.getElem_cons_succ, List.getElem_cons_zero, List.setIfInBounds_toArray, List.set_cons_zero, List.set_cons_succ]
  refine wpAnyH_take (i := 1) (v := .agg p0_cs) rfl (by kernel_rfl) (by kernel_rfl) (by kernel_rfl) (fun _ _ _ h => h) (Or.inl ⟨by rfl, ?_⟩) (by assumption) ?_
  · intro w' hSw; exact yields_load_blk 30 _ rfl (w.heap.size) rfl _ _ _ _ hSw.2 Tryz.underlying30 rfl (by rw [unhide Hz_p0_cs]; exact infoSessionlawsContinue)
  simp only [Act.put, List.getElem_toArray, List.getElem_cons_succ, List.getElem_cons_zero, List.setIfInBounds_toArray, List.set_cons_zero, List.set_cons_succ]
  refine wpAnyH_ready (rs := [2]) (by kernel_rfl) (by simp) ?_
  refine AllReadyH.cons rfl (fun K hK => ?_) AllReadyH.nil
  go_simp
  go_wp2_with (go_at_call 8; refine ((unhide HTt) _ (Ext.refl w24).drew).mono ?_; rintro e w27 ⟨uT, ST, rfl, oT, FT⟩; have he' := (Ext.refl w24).drew.trans FT; obtain ⟨z0, rfl, _, _⟩ := (unhide ShX0) _ _ (X0.reads oT); have RT := hide (X0.reads oT); clear oT FT)
  refine hK.out _ _ ⟨he'.kept (unhide HB_x0), he'.kept (unhide HB_p)⟩ (fun hHeld => ?_)
  clear hK K
  refine wpAnyH_ready (rs := [3]) (by kernel_rfl) (by simp) ?_
  refine AllReadyH.cons rfl (fun K hK => ?_) AllReadyH.nil
  go_simp
  go_wp2_with (go_at_call 10; refine ((unhide HEqX0) _ _ _ (X0.rext (X0.reads (unhide HO_x0)) he') (unhide RT)).mono ?_; rintro e w28 ⟨rfl, FE⟩; have he' := he'.trans FE; clear FE)
  refine hK.out _ _ ⟨he'.kept (unhide HB_x0), he'.kept (unhide HB_p)⟩ (fun hHeld => ?_)
  clear hK K
  refine wpAnyH_take (i := 4) (v := ?_) rfl (by kernel_rfl) (by kernel_rfl) (by kernel_rfl) (fun _ _ _ h => h) (Or.inl ⟨by rfl, ?_⟩) (by assumption) ?_
  rotate_left
  · intro w' hSw; go_simp <;> with_reducible rfl
  simp only [Act.put, List.getElem_toArray, List.getElem_cons_succ, List.getElem_cons_zero, List.setIfInBounds_toArray, List.set_cons_zero, List.set_cons_succ]
  refine wpAnyH_done (by kernel_rfl) ?_ _
  clear HTt RT 
  have F29 := he'
  clear he'
  have hs30 := hide (F29).size
  replace E := E.trans F29
  replace HB_p := hide ((F29).kept (unhide HB_p))
  replace HB_w0 := hide ((F29).kept (unhide HB_w0))
  replace HB_x0 := hide ((F29).kept (unhide HB_x0))
  replace HB_g0 := hide ((F29).kept (unhide HB_g0))
  replace HO_x0 := hide (X0.oext (unhide HO_x0) F29)
  replace HO_g0 := hide (K0.oext (unhide HO_g0) F29)
  replace HO_g1 := hide (K1.oext (unhide HO_g1) F29)
  replace HEw := hide ((unhide HEw).trans F29)
  go_wp2_with (refine wpList_load_blk rfl 37 _ rfl (w11.heap.size) rfl _ _ _ _ (unhide HB_x0) Tryz.underlying37 rfl (by rw [unhide Hz_x0_cs]; exact infoSessionimplContinue) ?_)
  refine ((unhide HMkX0) _ _ _ _ _ (unhide HO_x0) (by omega) (by omega)).mono ?_
  rintro e w31 ⟨rfl, om, F32⟩
  replace E := F32.ext E (fun _ h9 => by have b9 := (unhide HL_x0) _ h9; have z0 := unhide hzW0; have z1 := unhide hs2; have z2 := unhide hs5; have z3 := unhide hs8; have z4 := unhide hzV9; have z5 := unhide hs10; have z6 := unhide hs13; have z7 := unhide hzV14; have z8 := unhide hs15; have z9 := unhide hs18; have z10 := unhide hzV19; have z11 := unhide hs20; have z12 := unhide hs23; have z13 := unhide hs26; have z14 := unhide hs30; omega)
  replace HEw := hide (F32.ext (unhide HEw) (fun _ h9 => by have b9 := (unhide HL_x0) _ h9; have z0 := unhide hzW0; have z1 := unhide hs2; have z2 := unhide hs5; have z3 := unhide hs8; have z4 := unhide hzV9; have z5 := unhide hs10; have z6 := unhide hs13; have z7 := unhide hzV14; have z8 := unhide hs15; have z9 := unhide hs18; have z10 := unhide hzV19; have z11 := unhide hs20; have z12 := unhide hs23; have z13 := unhide hs26; have z14 := unhide hs30; omega))
  replace HB_p := hide (F32.kept (unhide HB_p) (fun h9 => by have b9 := (unhide HL_x0) _ h9; have z0 := unhide hzW0; have z1 := unhide hs2; have z2 := unhide hs5; have z3 := unhide hs8; have z4 := unhide hzV9; have z5 := unhide hs10; have z6 := unhide hs13; have z7 := unhide hzV14; have z8 := unhide hs15; have z9 := unhide hs18; have z10 := unhide hzV19; have z11 := unhide hs20; have z12 := unhide hs23; have z13 := unhide hs26; have z14 := unhide hs30; omega))
  replace HB_w0 := hide (F32.kept (unhide HB_w0) (fun h9 => by have b9 := (unhide HL_x0) _ h9; have z0 := unhide hzW0; have z1 := unhide hs2; have z2 := unhide hs5; have z3 := unhide hs8; have z4 := unhide hzV9; have z5 := unhide hs10; have z6 := unhide hs13; have z7 := unhide hzV14; have z8 := unhide hs15; have z9 := unhide hs18; have z10 := unhide hzV19; have z11 := unhide hs20; have z12 := unhide hs23; have z13 := unhide hs26; have z14 := unhide hs30; omega))
  replace HB_x0 := hide (F32.kept (unhide HB_x0) (fun h9 => by have b9 := (unhide HL_x0) _ h9; have z0 := unhide hzW0; have z1 := unhide hs2; have z2 := unhide hs5; have z3 := unhide hs8; have z4 := unhide hzV9; have z5 := unhide hs10; have z6 := unhide hs13; have z7 := unhide hzV14; have z8 := unhide hs15; have z9 := unhide hs18; have z10 := unhide hzV19; have z11 := unhide hs20; have z12 := unhide hs23; have z13 := unhide hs26; have z14 := unhide hs30; omega))
  replace HB_g0 := hide (F32.kept (unhide HB_g0) (fun h9 => by have b9 := (unhide HL_x0) _ h9; have z0 := unhide hzW0; have z1 := unhide hs2; have z2 := unhide hs5; have z3 := unhide hs8; have z4 := unhide hzV9; have z5 := unhide hs10; have z6 := unhide hs13; have z7 := unhide hzV14; have z8 := unhide hs15; have z9 := unhide hs18; have z10 := unhide hzV19; have z11 := unhide hs20; have z12 := unhide hs23; have z13 := unhide hs26; have z14 := unhide hs30; omega))
  replace HO_g0 := hide (K0.ofr (unhide HO_g0) F32 (fun q9 h8 h9 => by have b8 := (unhide HL_g0) q9 h8; have b9 := (unhide HL_x0) q9 h9; have z0 := unhide hzW0; have z1 := unhide hs2; have z2 := unhide hs5; have z3 := unhide hs8; have z4 := unhide hzV9; have z5 := unhide hs10; have z6 := unhide hs13; have z7 := unhide hzV14; have z8 := unhide hs15; have z9 := unhide hs18; have z10 := unhide hzV19; have z11 := unhide hs20; have z12 := unhide hs23; have z13 := unhide hs26; have z14 := unhide hs30; omega))
  replace HO_g1 := hide (K1.ofr (unhide HO_g1) F32 (fun q9 h8 h9 => by have b8 := (unhide HL_g1) q9 h8; have b9 := (unhide HL_x0) q9 h9; have z0 := unhide hzW0; have z1 := unhide hs2; have z2 := unhide hs5; have z3 := unhide hs8; have z4 := unhide hzV9; have z5 := unhide hs10; have z6 := unhide hs13; have z7 := unhide hzV14; have z8 := unhide hs15; have z9 := unhide hs18; have z10 := unhide hzV19; have z11 := unhide hs20; have z12 := unhide hs23; have z13 := unhide hs26; have z14 := unhide hs30; omega))
  have hs33 := hide F32.size
  replace HO_x0 := hide om
  clear om
  have hkk : ¬ (1 + (mX0 : Int) : Int) < 0 := by omega
  clear HO_x0
  clear HB_x0
  go_wp2_with (first | (refine wpList_load_blk rfl 37 _ rfl (w16.heap.size) rfl _ _ _ _ (unhide HB_g0) Tryz.underlying37 rfl (by rw [unhide Hz_g0_cs]; exact infoSessionimplContinue) ?_) | (refine wpList_load_blk_g (by rfl) 37 _ rfl (w16.heap.size) rfl _ _ _ _ (unhide HB_g0) Tryz.underlying37 rfl (by rw [unhide Hz_g0_cs]; exact infoSessionimplContinue) ?_) | (refine wpList_load_blk rfl 37 _ rfl (w6.heap.size) rfl _ _ _ _ (unhide HB_w0) Tryz.underlying37 rfl (by rw [unhide Hz_w0_cs]; exact infoSessionimplContinue) ?_) | (refine wpList_load_blk_g (by rfl) 37 _ rfl (w6.heap.size) rfl _ _ _ _ (unhide HB_w0) Tryz.underlying37 rfl (by rw [unhide Hz_w0_cs]; exact infoSessionimplContinue) ?_))
  refine ((unhide HEqK0) _ _ _ (K0.reads (unhide HO_g0)) (K0.rext (unhide HR_w0) (unhide HEw))).mono ?_
  rintro e w34 ⟨rfl, F35⟩
  have hs36 := hide (F35).size
  replace E := E.trans F35
  replace HB_p := hide ((F35).kept (unhide HB_p))
  replace HB_w0 := hide ((F35).kept (unhide HB_w0))
  replace HB_g0 := hide ((F35).kept (unhide HB_g0))
  replace HO_g0 := hide (K0.oext (unhide HO_g0) F35)
  replace HO_g1 := hide (K1.oext (unhide HO_g1) F35)
  replace HEw := hide ((unhide HEw).trans F35)
  go_wp2_with (first | (refine wpList_load_blk rfl 37 _ rfl (w16.heap.size) rfl _ _ _ _ (unhide HB_g0) Tryz.underlying37 rfl (by rw [unhide Hz_g0_cs]; exact infoSessionimplContinue) ?_) | (refine wpList_load_blk_g (by rfl) 37 _ rfl (w16.heap.size) rfl _ _ _ _ (unhide HB_g0) Tryz.underlying37 rfl (by rw [unhide Hz_g0_cs]; exact infoSessionimplContinue) ?_) | (refine wpList_load_blk rfl 37 _ rfl (w6.heap.size) rfl _ _ _ _ (unhide HB_w0) Tryz.underlying37 rfl (by rw [unhide Hz_w0_cs]; exact infoSessionimplContinue) ?_) | (refine wpList_load_blk_g (by rfl) 37 _ rfl (w6.heap.size) rfl _ _ _ _ (unhide HB_w0) Tryz.underlying37 rfl (by rw [unhide Hz_w0_cs]; exact infoSessionimplContinue) ?_))
  refine ((unhide HEqK1) _ _ _ (K1.reads (unhide HO_g1)) (K1.rext (unhide HR_w1) (unhide HEw))).mono ?_
  rintro e w37 ⟨rfl, F38⟩
  have hs39 := hide (F38).size
  replace E := E.trans F38
  replace HB_p := hide ((F38).kept (unhide HB_p))
  replace HB_w0 := hide ((F38).kept (unhide HB_w0))
  replace HB_g0 := hide ((F38).kept (unhide HB_g0))
  replace HO_g0 := hide (K0.oext (unhide HO_g0) F38)
  replace HO_g1 := hide (K1.oext (unhide HO_g1) F38)
  replace HEw := hide ((unhide HEw).trans F38)
  go_wp2_with (refine wpList_load_blk rfl 37 _ rfl (w16.heap.size) rfl _ _ _ _ (unhide HB_g0) Tryz.underlying37 rfl (by rw [unhide Hz_g0_cs]; exact infoSessionimplContinue) ?_)
  refine ((unhide HMkK0) _ _ _ _ _ (unhide HO_g0) (by omega) (by omega)).mono ?_
  rintro e w40 ⟨rfl, om, F41⟩
  replace E := F41.ext E (fun _ h9 => by have b9 := (unhide HL_g0) _ h9; have z0 := unhide hzW0; have z1 := unhide hs2; have z2 := unhide hs5; have z3 := unhide hs8; have z4 := unhide hzV9; have z5 := unhide hs10; have z6 := unhide hs13; have z7 := unhide hzV14; have z8 := unhide hs15; have z9 := unhide hs18; have z10 := unhide hzV19; have z11 := unhide hs20; have z12 := unhide hs23; have z13 := unhide hs26; have z14 := unhide hs30; have z15 := unhide hs33; have z16 := unhide hs36; have z17 := unhide hs39; omega)
  replace HEw := hide (F41.ext (unhide HEw) (fun _ h9 => by have b9 := (unhide HL_g0) _ h9; have z0 := unhide hzW0; have z1 := unhide hs2; have z2 := unhide hs5; have z3 := unhide hs8; have z4 := unhide hzV9; have z5 := unhide hs10; have z6 := unhide hs13; have z7 := unhide hzV14; have z8 := unhide hs15; have z9 := unhide hs18; have z10 := unhide hzV19; have z11 := unhide hs20; have z12 := unhide hs23; have z13 := unhide hs26; have z14 := unhide hs30; have z15 := unhide hs33; have z16 := unhide hs36; have z17 := unhide hs39; omega))
  replace HB_p := hide (F41.kept (unhide HB_p) (fun h9 => by have b9 := (unhide HL_g0) _ h9; have z0 := unhide hzW0; have z1 := unhide hs2; have z2 := unhide hs5; have z3 := unhide hs8; have z4 := unhide hzV9; have z5 := unhide hs10; have z6 := unhide hs13; have z7 := unhide hzV14; have z8 := unhide hs15; have z9 := unhide hs18; have z10 := unhide hzV19; have z11 := unhide hs20; have z12 := unhide hs23; have z13 := unhide hs26; have z14 := unhide hs30; have z15 := unhide hs33; have z16 := unhide hs36; have z17 := unhide hs39; omega))
  replace HB_w0 := hide (F41.kept (unhide HB_w0) (fun h9 => by have b9 := (unhide HL_g0) _ h9; have z0 := unhide hzW0; have z1 := unhide hs2; have z2 := unhide hs5; have z3 := unhide hs8; have z4 := unhide hzV9; have z5 := unhide hs10; have z6 := unhide hs13; have z7 := unhide hzV14; have z8 := unhide hs15; have z9 := unhide hs18; have z10 := unhide hzV19; have z11 := unhide hs20; have z12 := unhide hs23; have z13 := unhide hs26; have z14 := unhide hs30; have z15 := unhide hs33; have z16 := unhide hs36; have z17 := unhide hs39; omega))
  replace HB_g0 := hide (F41.kept (unhide HB_g0) (fun h9 => by have b9 := (unhide HL_g0) _ h9; have z0 := unhide hzW0; have z1 := unhide hs2; have z2 := unhide hs5; have z3 := unhide hs8; have z4 := unhide hzV9; have z5 := unhide hs10; have z6 := unhide hs13; have z7 := unhide hzV14; have z8 := unhide hs15; have z9 := unhide hs18; have z10 := unhide hzV19; have z11 := unhide hs20; have z12 := unhide hs23; have z13 := unhide hs26; have z14 := unhide hs30; have z15 := unhide hs33; have z16 := unhide hs36; have z17 := unhide hs39; omega))
  replace HO_g1 := hide (K1.ofr (unhide HO_g1) F41 (fun q9 h8 h9 => (unhide HD_g0_g1) q9 h9 h8))
  have hs42 := hide F41.size
  replace HO_g0 := hide om
  clear om
  go_wp2_with fail
  refine ((unhide HMkK1) _ _ _ _ _ (unhide HO_g1) (by omega) (by omega)).mono ?_
  rintro e w43 ⟨rfl, om, F44⟩
  replace E := F44.ext E (fun _ h9 => by have b9 := (unhide HL_g1) _ h9; have z0 := unhide hzW0; have z1 := unhide hs2; have z2 := unhide hs5; have z3 := unhide hs8; have z4 := unhide hzV9; have z5 := unhide hs10; have z6 := unhide hs13; have z7 := unhide hzV14; have z8 := unhide hs15; have z9 := unhide hs18; have z10 := unhide hzV19; have z11 := unhide hs20; have z12 := unhide hs23; have z13 := unhide hs26; have z14 := unhide hs30; have z15 := unhide hs33; have z16 := unhide hs36; have z17 := unhide hs39; have z18 := unhide hs42; omega)
  replace HEw := hide (F44.ext (unhide HEw) (fun _ h9 => by have b9 := (unhide HL_g1) _ h9; have z0 := unhide hzW0; have z1 := unhide hs2; have z2 := unhide hs5; have z3 := unhide hs8; have z4 := unhide hzV9; have z5 := unhide hs10; have z6 := unhide hs13; have z7 := unhide hzV14; have z8 := unhide hs15; have z9 := unhide hs18; have z10 := unhide hzV19; have z11 := unhide hs20; have z12 := unhide hs23; have z13 := unhide hs26; have z14 := unhide hs30; have z15 := unhide hs33; have z16 := unhide hs36; have z17 := unhide hs39; have z18 := unhide hs42; omega))
  replace HB_p := hide (F44.kept (unhide HB_p) (fun h9 => by have b9 := (unhide HL_g1) _ h9; have z0 := unhide hzW0; have z1 := unhide hs2; have z2 := unhide hs5; have z3 := unhide hs8; have z4 := unhide hzV9; have z5 := unhide hs10; have z6 := unhide hs13; have z7 := unhide hzV14; have z8 := unhide hs15; have z9 := unhide hs18; have z10 := unhide hzV19; have z11 := unhide hs20; have z12 := unhide hs23; have z13 := unhide hs26; have z14 := unhide hs30; have z15 := unhide hs33; have z16 := unhide hs36; have z17 := unhide hs39; have z18 := unhide hs42; omega))
  replace HB_w0 := hide (F44.kept (unhide HB_w0) (fun h9 => by have b9 := (unhide HL_g1) _ h9; have z0 := unhide hzW0; have z1 := unhide hs2; have z2 := unhide hs5; have z3 := unhide hs8; have z4 := unhide hzV9; have z5 := unhide hs10; have z6 := unhide hs13; have z7 := unhide hzV14; have z8 := unhide hs15; have z9 := unhide hs18; have z10 := unhide hzV19; have z11 := unhide hs20; have z12 := unhide hs23; have z13 := unhide hs26; have z14 := unhide hs30; have z15 := unhide hs33; have z16 := unhide hs36; have z17 := unhide hs39; have z18 := unhide hs42; omega))
  replace HB_g0 := hide (F44.kept (unhide HB_g0) (fun h9 => by have b9 := (unhide HL_g1) _ h9; have z0 := unhide hzW0; have z1 := unhide hs2; have z2 := unhide hs5; have z3 := unhide hs8; have z4 := unhide hzV9; have z5 := unhide hs10; have z6 := unhide hs13; have z7 := unhide hzV14; have z8 := unhide hs15; have z9 := unhide hs18; have z10 := unhide hzV19; have z11 := unhide hs20; have z12 := unhide hs23; have z13 := unhide hs26; have z14 := unhide hs30; have z15 := unhide hs33; have z16 := unhide hs36; have z17 := unhide hs39; have z18 := unhide hs42; omega))
  replace HO_g0 := hide ((MK0 (1)).ofr (unhide HO_g0) F44 (fun q9 h8 h9 => (unhide HD_g0_g1) q9 h8 h9))
  have hs45 := hide F44.size
  replace HO_g1 := hide om
  clear om
  have hq0 : ¬ (1 + (mK0 : Int) : Int) < 0 := by omega
  go_wp2_with (refine wpList_load_blk rfl 37 _ rfl (w16.heap.size) rfl _ _ _ _ (unhide HB_g0) Tryz.underlying37 rfl (by rw [unhide Hz_g0_cs]; exact infoSessionimplContinue) ?_)
  refine ((unhide HHdK0) _ _ _ ((MK0 (1)).reads (unhide HO_g0)) (by omega) (by omega)).mono ?_
  rintro e w46 ⟨rfl, F47⟩
  have hs48 := hide (F47).size
  replace E := E.trans F47
  replace HB_p := hide ((F47).kept (unhide HB_p))
  replace HB_w0 := hide ((F47).kept (unhide HB_w0))
  replace HB_g0 := hide ((F47).kept (unhide HB_g0))
  replace HO_g0 := hide ((MK0 (1)).oext (unhide HO_g0) F47)
  replace HO_g1 := hide ((MK1 (1 + (mK0 : Int))).oext (unhide HO_g1) F47)
  replace HEw := hide ((unhide HEw).trans F47)
  have hq1 : ¬ (1 + (mK0 : Int) + (mK1 : Int) : Int) < 0 := by omega
  go_wp2_with fail
  refine ((unhide HHdK1) _ _ _ ((MK1 (1 + (mK0 : Int))).reads (unhide HO_g1)) (by omega) (by omega)).mono ?_
  rintro e w49 ⟨rfl, F50⟩
  have hs51 := hide (F50).size
  replace E := E.trans F50
  replace HB_p := hide ((F50).kept (unhide HB_p))
  replace HB_w0 := hide ((F50).kept (unhide HB_w0))
  replace HB_g0 := hide ((F50).kept (unhide HB_g0))
  replace HO_g0 := hide ((MK0 (1)).oext (unhide HO_g0) F50)
  replace HO_g1 := hide ((MK1 (1 + (mK0 : Int))).oext (unhide HO_g1) F50)
  replace HEw := hide ((unhide HEw).trans F50)
  go_wp2_with (refine wpList_load_blk rfl 30 _ rfl (w.heap.size) rfl _ _ _ _ (unhide HB_p) Tryz.underlying30 rfl (by rw [unhide Hz_p0_cs]; exact infoSessionlawsContinue) ?_)
  refine ((unhide HTo0) _ E).mono ?_
  rintro e w52 ⟨ut0, St0, rfl, ot0, F53⟩
  have HL_t0 : Hid (∀ g, St0 g → w49.heap.size ≤ g ∧ g < w52.heap.size) := hide (X0.lt ot0)
  have hs54 := hide (F53).size
  replace E := E.trans F53
  replace HB_p := hide ((F53).kept (unhide HB_p))
  replace HB_w0 := hide ((F53).kept (unhide HB_w0))
  replace HB_g0 := hide ((F53).kept (unhide HB_g0))
  replace HO_g0 := hide ((MK0 (1)).oext (unhide HO_g0) F53)
  replace HO_g1 := hide ((MK1 (1 + (mK0 : Int))).oext (unhide HO_g1) F53)
  replace HEw := hide ((unhide HEw).trans F53)
  obtain ⟨t0_cs, rfl, hz9, ho9⟩ := (unhide ShX0) _ _ (X0.reads ot0)
  have Hz_t0_cs := hide hz9
  have Ho_t0_cs := hide ho9
  clear hz9 ho9
  have HO_t0 := hide ot0
  clear ot0
  go_wp2_with fail
  refine ((unhide HI) _ _ E (X0.reads (unhide HO_t0))).mono ?_
  rintro e w55 ⟨uh0, Sh0, uh1, Sh1, rfl, oh0, oh1, ah01, F56⟩
  have HL_h0 : Hid (∀ g, Sh0 g → w52.heap.size ≤ g ∧ g < w55.heap.size) := hide (K0.lt oh0)
  have HL_h1 : Hid (∀ g, Sh1 g → w52.heap.size ≤ g ∧ g < w55.heap.size) := hide (K1.lt oh1)
  have HD_h0_h1 := hide ah01
  clear ah01
  have hs57 := hide (F56).size
  replace E := E.trans F56
  replace HB_p := hide ((F56).kept (unhide HB_p))
  replace HB_w0 := hide ((F56).kept (unhide HB_w0))
  replace HB_g0 := hide ((F56).kept (unhide HB_g0))
  replace HO_g0 := hide ((MK0 (1)).oext (unhide HO_g0) F56)
  replace HO_g1 := hide ((MK1 (1 + (mK0 : Int))).oext (unhide HO_g1) F56)
  replace HO_t0 := hide (X0.oext (unhide HO_t0) F56)
  replace HEw := hide ((unhide HEw).trans F56)
  obtain ⟨h0_cs, rfl, hz9, ho9⟩ := (unhide ShK0) _ _ (K0.reads oh0)
  have Hz_h0_cs := hide hz9
  have Ho_h0_cs := hide ho9
  clear hz9 ho9
  have HO_h0 := hide oh0
  clear oh0
  obtain ⟨h1_a, h1_n, h1_c, rfl⟩ := (unhide ShK1) _ _ (K1.reads oh1)
  have HO_h1 := hide oh1
  clear oh1
  clear HO_t0
  go_wp2_with (first | (refine wpList_store_blk rfl 37 _ _ rfl rfl (w55.heap.size) rfl _ _ _ rfl (new_block w55 _) (by rw [unhide Hz_h0_cs]; exact infoSessionimplContinue) (by rw [unhide Hz_h0_cs]; rfl) (unhide Ho_h0_cs) ?_; intro V58 hb9 hf9; have FV58 := hide (hf9.ext ((Ext.refl w55).alloc _) (fun q9 h9 => by omega)); have HB_h0 := hide hb9; clear hb9 hf9) | (refine wpList_load_blk rfl 37 _ rfl (w55.heap.size) rfl _ _ _ _ (unhide HB_h0) Tryz.underlying37 rfl (by rw [unhide Hz_h0_cs]; exact infoSessionimplContinue) ?_) | (refine wpList_load_blk rfl 37 _ rfl (w6.heap.size) rfl _ _ _ _ ((unhide FV58).kept (unhide HB_w0)) Tryz.underlying37 rfl (by rw [unhide Hz_w0_cs]; exact infoSessionimplContinue) ?_))
  have hzV58 := hide (lt_of_block (unhide HB_h0))
  have hs59 := hide ((unhide FV58)).size
  replace E := E.trans (unhide FV58)
  replace HB_p := hide (((unhide FV58)).kept (unhide HB_p))
  replace HB_w0 := hide (((unhide FV58)).kept (unhide HB_w0))
  replace HB_g0 := hide (((unhide FV58)).kept (unhide HB_g0))
  replace HO_g0 := hide ((MK0 (1)).oext (unhide HO_g0) (unhide FV58))
  replace HO_g1 := hide ((MK1 (1 + (mK0 : Int))).oext (unhide HO_g1) (unhide FV58))
  replace HO_h0 := hide (K0.oext (unhide HO_h0) (unhide FV58))
  replace HO_h1 := hide (K1.oext (unhide HO_h1) (unhide FV58))
  replace HEw := hide ((unhide HEw).trans (unhide FV58))
  refine ((unhide HEqK0) _ _ _ (K0.reads (unhide HO_h0)) (K0.rext (unhide HR_w0) (unhide HEw))).mono ?_
  rintro e w60 ⟨rfl, F61⟩
  have hs62 := hide (F61).size
  replace E := E.trans F61
  replace HB_p := hide ((F61).kept (unhide HB_p))
  replace HB_w0 := hide ((F61).kept (unhide HB_w0))
  replace HB_g0 := hide ((F61).kept (unhide HB_g0))
  replace HB_h0 := hide ((F61).kept (unhide HB_h0))
  replace HO_g0 := hide ((MK0 (1)).oext (unhide HO_g0) F61)
  replace HO_g1 := hide ((MK1 (1 + (mK0 : Int))).oext (unhide HO_g1) F61)
  replace HO_h0 := hide (K0.oext (unhide HO_h0) F61)
  replace HO_h1 := hide (K1.oext (unhide HO_h1) F61)
  replace HEw := hide ((unhide HEw).trans F61)
  go_wp2_with (first | (refine wpList_load_blk rfl 37 _ rfl (w55.heap.size) rfl _ _ _ _ (unhide HB_h0) Tryz.underlying37 rfl (by rw [unhide Hz_h0_cs]; exact infoSessionimplContinue) ?_) | (refine wpList_load_blk rfl 37 _ rfl (w6.heap.size) rfl _ _ _ _ (unhide HB_w0) Tryz.underlying37 rfl (by rw [unhide Hz_w0_cs]; exact infoSessionimplContinue) ?_))
  refine ((unhide HEqK1) _ _ _ (K1.reads (unhide HO_h1)) (K1.rext (unhide HR_w1) (unhide HEw))).mono ?_
  rintro e w63 ⟨rfl, F64⟩
  have hs65 := hide (F64).size
  replace E := E.trans F64
  replace HB_p := hide ((F64).kept (unhide HB_p))
  replace HB_w0 := hide ((F64).kept (unhide HB_w0))
  replace HB_g0 := hide ((F64).kept (unhide HB_g0))
  replace HB_h0 := hide ((F64).kept (unhide HB_h0))
  replace HO_g0 := hide ((MK0 (1)).oext (unhide HO_g0) F64)
  replace HO_g1 := hide ((MK1 (1 + (mK0 : Int))).oext (unhide HO_g1) F64)
  replace HO_h0 := hide (K0.oext (unhide HO_h0) F64)
  replace HO_h1 := hide (K1.oext (unhide HO_h1) F64)
  replace HEw := hide ((unhide HEw).trans F64)
  have hq0 : ¬ (1 + (mK0 : Int) : Int) < 0 := by omega
  go_wp2_with (refine wpList_load_blk rfl 37 _ rfl (w16.heap.size) rfl _ _ _ _ (unhide HB_g0) Tryz.underlying37 rfl (by rw [unhide Hz_g0_cs]; exact infoSessionimplContinue) ?_)
  refine ((unhide HHdK0) _ _ _ ((MK0 (1)).reads (unhide HO_g0)) (by omega) (by omega)).mono ?_
  rintro e w66 ⟨rfl, F67⟩
  have hs68 := hide (F67).size
  replace E := E.trans F67
  replace HB_p := hide ((F67).kept (unhide HB_p))
  replace HB_w0 := hide ((F67).kept (unhide HB_w0))
  replace HB_g0 := hide ((F67).kept (unhide HB_g0))
  replace HB_h0 := hide ((F67).kept (unhide HB_h0))
  replace HO_g0 := hide ((MK0 (1)).oext (unhide HO_g0) F67)
  replace HO_g1 := hide ((MK1 (1 + (mK0 : Int))).oext (unhide HO_g1) F67)
  replace HO_h0 := hide (K0.oext (unhide HO_h0) F67)
  replace HO_h1 := hide (K1.oext (unhide HO_h1) F67)
  replace HEw := hide ((unhide HEw).trans F67)
  have hq1 : ¬ (1 + (mK0 : Int) + (mK1 : Int) : Int) < 0 := by omega
  go_wp2_with fail
  refine ((unhide HHdK1) _ _ _ ((MK1 (1 + (mK0 : Int))).reads (unhide HO_g1)) (by omega) (by omega)).mono ?_
  rintro e w69 ⟨rfl, F70⟩
  have hs71 := hide (F70).size
  replace E := E.trans F70
  replace HB_p := hide ((F70).kept (unhide HB_p))
  replace HB_w0 := hide ((F70).kept (unhide HB_w0))
  replace HB_g0 := hide ((F70).kept (unhide HB_g0))
  replace HB_h0 := hide ((F70).kept (unhide HB_h0))
  replace HO_g0 := hide ((MK0 (1)).oext (unhide HO_g0) F70)
  replace HO_g1 := hide ((MK1 (1 + (mK0 : Int))).oext (unhide HO_g1) F70)
  replace HO_h0 := hide (K0.oext (unhide HO_h0) F70)
  replace HO_h1 := hide (K1.oext (unhide HO_h1) F70)
  replace HEw := hide ((unhide HEw).trans F70)
  go_wp2
  go_ret
  exact ⟨rfl, E.below⟩
end Go.Proofs.YtgdadidppelgdaaGreatDoor
