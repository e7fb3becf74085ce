import Derived.Test.YtjfnieodpdklfaaGreatDoorNewSI
import Derived.Test.YtjfnieodpdklfaaGreatDoorSesCopy2
import Derived.Test.YtjfnieodpdklfaaGreatDoorSesOkS2
import Derived.Test.YtjfnieodpdklfaaGreatDoorSpecPaint
namespace Go.Proofs.YtjfnieodpdklfaaGreatDoor
open Go.RowKit

set_option maxRecDepth 10000 in
set_option maxHeartbeats 4000000 in
theorem specNewSession_no (p : ByteArray) (c r : Int) (w : World) (hp : p.size ≤ 1048576) (hok : ¬ SesP (newS p c r)) :
    Calls Tryz.prog 5 #[.string p, .int .i64 c, .int .i64 r] w fun e w' => ∃ u, e = .returned (.tuple #[sesV (newS noX 0 0) nilV nilV nilV nilV nilV nilV, u, .bool false]) ∧ (bytesK []).R w' u ∧ Ext w w' := by
  have hcS := hide (fun W (_ : Ext w W) => specSessionOk_any (newS p c r) nilV nilV nilV nilV nilV nilV W (newS_at W p c r) (newS_sz p c r hp) false (by simp [hok]))
  rw [newS_val] at hcS
  rw [newS_val]
  clear hok
  have HA1 : Hid (((w.alloc (.cells #[.string { data := #[] }, .int .i64 0, .int .i64 0, .string { data := #[] }, .string { data := #[] }, .string { data := #[] }, .slice none 0 0, .slice none 0 0, .bool false, .bool false, .slice none 0 0, .int .i64 0, .string { data := #[] }, .bool false, .slice none 0 0, .slice none 0 0, .slice none 0 0] 30)).alloc (.cells #[.string { data := #[] }, .int .i64 0, .int .i64 0, .string { data := #[] }, .string { data := #[] }, .string { data := #[] }, .slice none 0 0, .slice none 0 0, .bool false, .bool false, .slice none 0 0, .int .i64 0, .string { data := #[] }, .bool false, .slice none 0 0, .slice none 0 0, .slice none 0 0] 30)).heap[w.heap.size + 1]? = some (.cells #[.string { data := #[] }, .int .i64 0, .int .i64 0, .string { data := #[] }, .string { data := #[] }, .string { data := #[] }, .slice none 0 0, .slice none 0 0, .bool false, .bool false, .slice none 0 0, .int .i64 0, .string { data := #[] }, .bool false, .slice none 0 0, .slice none 0 0, .slice none 0 0] 30 (0, 0))) := hide (by have h := new_block (w.alloc (.cells #[.string { data := #[] }, .int .i64 0, .int .i64 0, .string { data := #[] }, .string { data := #[] }, .string { data := #[] }, .slice none 0 0, .slice none 0 0, .bool false, .bool false, .slice none 0 0, .int .i64 0, .string { data := #[] }, .bool false, .slice none 0 0, .slice none 0 0, .slice none 0 0] 30)) (.cells #[.string { data := #[] }, .int .i64 0, .int .i64 0, .string { data := #[] }, .string { data := #[] }, .string { data := #[] }, .slice none 0 0, .slice none 0 0, .bool false, .bool false, .slice none 0 0, .int .i64 0, .string { data := #[] }, .bool false, .slice none 0 0, .slice none 0 0, .slice none 0 0] 30); rw [show (w.alloc (.cells #[.string { data := #[] }, .int .i64 0, .int .i64 0, .string { data := #[] }, .string { data := #[] }, .string { data := #[] }, .slice none 0 0, .slice none 0 0, .bool false, .bool false, .slice none 0 0, .int .i64 0, .string { data := #[] }, .bool false, .slice none 0 0, .slice none 0 0, .slice none 0 0] 30)).heap.size = w.heap.size + 1 by simp] at h; exact h)
  have HA0 : Hid (((w.alloc (.cells #[.string { data := #[] }, .int .i64 0, .int .i64 0, .string { data := #[] }, .string { data := #[] }, .string { data := #[] }, .slice none 0 0, .slice none 0 0, .bool false, .bool false, .slice none 0 0, .int .i64 0, .string { data := #[] }, .bool false, .slice none 0 0, .slice none 0 0, .slice none 0 0] 30)).alloc (.cells #[.string { data := #[] }, .int .i64 0, .int .i64 0, .string { data := #[] }, .string { data := #[] }, .string { data := #[] }, .slice none 0 0, .slice none 0 0, .bool false, .bool false, .slice none 0 0, .int .i64 0, .string { data := #[] }, .bool false, .slice none 0 0, .slice none 0 0, .slice none 0 0] 30)).heap[w.heap.size]? = some (.cells #[.string { data := #[] }, .int .i64 0, .int .i64 0, .string { data := #[] }, .string { data := #[] }, .string { data := #[] }, .slice none 0 0, .slice none 0 0, .bool false, .bool false, .slice none 0 0, .int .i64 0, .string { data := #[] }, .bool false, .slice none 0 0, .slice none 0 0, .slice none 0 0] 30 (0, 0))) := hide (((Ext.refl _).alloc _).kept (new_block w _))
  have HAE : Hid (Ext w ((w.alloc (.cells #[.string { data := #[] }, .int .i64 0, .int .i64 0, .string { data := #[] }, .string { data := #[] }, .string { data := #[] }, .slice none 0 0, .slice none 0 0, .bool false, .bool false, .slice none 0 0, .int .i64 0, .string { data := #[] }, .bool false, .slice none 0 0, .slice none 0 0, .slice none 0 0] 30)).alloc (.cells #[.string { data := #[] }, .int .i64 0, .int .i64 0, .string { data := #[] }, .string { data := #[] }, .string { data := #[] }, .slice none 0 0, .slice none 0 0, .bool false, .bool false, .slice none 0 0, .int .i64 0, .string { data := #[] }, .bool false, .slice none 0 0, .slice none 0 0, .slice none 0 0] 30))) := hide (((Ext.refl w).alloc _).alloc _)
  go_enter Tryz.func5, Tryz.ntmps5
  go_wp2_with (first
    | (refine wpList_store_blk rfl 30 _ _ rfl rfl (w.heap.size + 1) rfl _ _ _ rfl (unhide HA1) infoSesN rfl (by simp [Value.oneCell']) ?_; intro U HB9 hU9; have HU9 := hide hU9; have HB := hide HB9; clear hU9 HB9)
    | (refine wpList_load_blk rfl 30 _ rfl (w.heap.size + 1) rfl _ _ _ _ (unhide HB) Tryz.underlying30 rfl infoSesN ?_))
  have E0 : Ext w U := (unhide HU9).ext (unhide HAE) (fun q hq => by omega)
  have HB0 := hide ((unhide HU9).kept (unhide HA0) (by omega))
  clear HU9 HAE HA0 HA1
  refine ((unhide hcS) U E0).mono ?_
  rintro e w1 ⟨rfl, F1⟩
  have E1 := E0.trans F1
  replace HB := hide (F1.kept (unhide HB))
  replace HB0 := hide (F1.kept (unhide HB0))
  have HB0a : Hid ((w1.alloc (.cells #[] 5)).heap[w.heap.size]? = some (.cells #[.string { data := #[] }, .int .i64 0, .int .i64 0, .string { data := #[] }, .string { data := #[] }, .string { data := #[] }, .slice none 0 0, .slice none 0 0, .bool false, .bool false, .slice none 0 0, .int .i64 0, .string { data := #[] }, .bool false, .slice none 0 0, .slice none 0 0, .slice none 0 0] 30 (0, 0))) := hide (((Ext.refl w1).alloc _).kept (unhide HB0))
  go_wp2_with (refine wpList_store_blk rfl 30 _ _ rfl rfl (w.heap.size) rfl _ _ _ rfl (unhide HB0a) infoSesN rfl (by simp [Value.oneCell']) ?_; intro X HX9 hX9; have HX := hide HX9; have FX := hide hX9; clear hX9 HX9)
  have v0 : X.cell? ⟨w.heap.size, 0, none⟩ = some (.string { data := #[] }) := cells_of (unhide HX) 0 _ rfl
  have v1 : X.cell? ⟨w.heap.size, 1, none⟩ = some (.int .i64 0) := cells_of (unhide HX) 1 _ rfl
  have v2 : X.cell? ⟨w.heap.size, 2, none⟩ = some (.int .i64 0) := cells_of (unhide HX) 2 _ rfl
  have v3 : X.cell? ⟨w.heap.size, 3, none⟩ = some (.string { data := #[] }) := cells_of (unhide HX) 3 _ rfl
  have v4 : X.cell? ⟨w.heap.size, 4, none⟩ = some (.string { data := #[] }) := cells_of (unhide HX) 4 _ rfl
  have v5 : X.cell? ⟨w.heap.size, 5, none⟩ = some (.string { data := #[] }) := cells_of (unhide HX) 5 _ rfl
  have v6 : X.cell? ⟨w.heap.size, 6, none⟩ = some (.slice none 0 0) := cells_of (unhide HX) 6 _ rfl
  have v7 : X.cell? ⟨w.heap.size, 7, none⟩ = some (.slice none 0 0) := cells_of (unhide HX) 7 _ rfl
  have v8 : X.cell? ⟨w.heap.size, 8, none⟩ = some (.bool false) := cells_of (unhide HX) 8 _ rfl
  have v9 : X.cell? ⟨w.heap.size, 9, none⟩ = some (.bool false) := cells_of (unhide HX) 9 _ rfl
  have v10 : X.cell? ⟨w.heap.size, 10, none⟩ = some (.slice none 0 0) := cells_of (unhide HX) 10 _ rfl
  have v11 : X.cell? ⟨w.heap.size, 11, none⟩ = some (.int .i64 0) := cells_of (unhide HX) 11 _ rfl
  have v12 : X.cell? ⟨w.heap.size, 12, none⟩ = some (.string { data := #[] }) := cells_of (unhide HX) 12 _ rfl
  have v13 : X.cell? ⟨w.heap.size, 13, none⟩ = some (.bool false) := cells_of (unhide HX) 13 _ rfl
  have v14 : X.cell? ⟨w.heap.size, 14, none⟩ = some (.slice none 0 0) := cells_of (unhide HX) 14 _ rfl
  have v15 : X.cell? ⟨w.heap.size, 15, none⟩ = some (.slice none 0 0) := cells_of (unhide HX) 15 _ rfl
  have v16 : X.cell? ⟨w.heap.size, 16, none⟩ = some (.slice none 0 0) := cells_of (unhide HX) 16 _ rfl
  have s1 := lt_of_block (unhide HB0)
  exact bodyPost_ret (v := .tuple #[.agg (newC noX 0 0), .slice (some ⟨w1.heap.size, 0, none⟩) 0 0, .bool false]) (by simp [results, Tryz.results5, go_sem, v0, v1, v2, v3, v4, v5, v6, v7, v8, v9, v10, v11, v12, v13, v14, v15, v16]) rfl ⟨_, rfl, ints_of_owns (zs := []) ((unhide FX).owns (owns_empty w1 5 1) (fun g hg e9 => by cases hg; exact absurd e9 (by show ¬ (w1.heap.size = w.heap.size); omega))), (unhide FX).ext (E1.alloc _) (fun q hq => by omega)⟩
set_option linter.unusedSimpArgs false in
set_option maxRecDepth 10000 in
set_option maxHeartbeats 4000000 in
theorem specNewSession_yes (p : ByteArray) (c r : Int) (w : World) (hp : p.size ≤ 1048576) (hok : SesP (newS p c r)) :
    Calls Tryz.prog 5 #[.string p, .int .i64 c, .int .i64 r] w fun e w' => ∃ v u, e = .returned (.tuple #[v, u, .bool true]) ∧ (sesK (newS p c r)).R w' v ∧ (bytesK (newS p c r).paint).R w' u ∧ Ext w w' := by
  have hcS := hide (fun W (_ : Ext w W) => specSessionOk_any (newS p c r) nilV nilV nilV nilV nilV nilV W (newS_at W p c r) (newS_sz p c r hp) true (by simp [hok]))
  have hcC := hide (fun W (_ : Ext w W) => l7Copy_any (newS p c r) nilV nilV nilV nilV nilV nilV W (newS_at W p c r) (newS_sz p c r hp))
  have hcB := hide (fun W (_ : Ext w W) => l7Block_any (newS p c r) nilV nilV nilV nilV nilV nilV W (newS_at W p c r) (newS_sz p c r hp) hok.2.1)
  have hcP := hide (fun (v : Value) (W W' : World) (ho : Own1 W' W.heap.size 9 v (newS p c r).blk.n (fun i => .string ((newS p c r).blk.tx i))) => specPaint_any v ((newS p c r).blk.R : Int) (newS p c r).blk.C (newS p c r).blk.n (newS p c r).blk.tx W' ho.reads (by have := ((newS p c r).blk_lt hok.2.1).2; omega) (by have := (newS p c r).blk_slen (newS_sz p c r hp) hok.2.1; omega))
  rw [newS_val] at hcS hcB hcC
  unfold SS.paint
  clear hok
  generalize (newS p c r).blk.n = n at *
  generalize (newS p c r).blk.R = R at *
  generalize (newS p c r).blk.C = C at *
  generalize (newS p c r).blk.tx = tx at *
  have HA1 : Hid (((w.alloc (.cells #[.string { data := #[] }, .int .i64 0, .int .i64 0, .string { data := #[] }, .string { data := #[] }, .string { data := #[] }, .slice none 0 0, .slice none 0 0, .bool false, .bool false, .slice none 0 0, .int .i64 0, .string { data := #[] }, .bool false, .slice none 0 0, .slice none 0 0, .slice none 0 0] 30)).alloc (.cells #[.string { data := #[] }, .int .i64 0, .int .i64 0, .string { data := #[] }, .string { data := #[] }, .string { data := #[] }, .slice none 0 0, .slice none 0 0, .bool false, .bool false, .slice none 0 0, .int .i64 0, .string { data := #[] }, .bool false, .slice none 0 0, .slice none 0 0, .slice none 0 0] 30)).heap[w.heap.size + 1]? = some (.cells #[.string { data := #[] }, .int .i64 0, .int .i64 0, .string { data := #[] }, .string { data := #[] }, .string { data := #[] }, .slice none 0 0, .slice none 0 0, .bool false, .bool false, .slice none 0 0, .int .i64 0, .string { data := #[] }, .bool false, .slice none 0 0, .slice none 0 0, .slice none 0 0] 30 (0, 0))) := hide (by have h := new_block (w.alloc (.cells #[.string { data := #[] }, .int .i64 0, .int .i64 0, .string { data := #[] }, .string { data := #[] }, .string { data := #[] }, .slice none 0 0, .slice none 0 0, .bool false, .bool false, .slice none 0 0, .int .i64 0, .string { data := #[] }, .bool false, .slice none 0 0, .slice none 0 0, .slice none 0 0] 30)) (.cells #[.string { data := #[] }, .int .i64 0, .int .i64 0, .string { data := #[] }, .string { data := #[] }, .string { data := #[] }, .slice none 0 0, .slice none 0 0, .bool false, .bool false, .slice none 0 0, .int .i64 0, .string { data := #[] }, .bool false, .slice none 0 0, .slice none 0 0, .slice none 0 0] 30); rw [show (w.alloc (.cells #[.string { data := #[] }, .int .i64 0, .int .i64 0, .string { data := #[] }, .string { data := #[] }, .string { data := #[] }, .slice none 0 0, .slice none 0 0, .bool false, .bool false, .slice none 0 0, .int .i64 0, .string { data := #[] }, .bool false, .slice none 0 0, .slice none 0 0, .slice none 0 0] 30)).heap.size = w.heap.size + 1 by simp] at h; exact h)
  have HA0 : Hid (((w.alloc (.cells #[.string { data := #[] }, .int .i64 0, .int .i64 0, .string { data := #[] }, .string { data := #[] }, .string { data := #[] }, .slice none 0 0, .slice none 0 0, .bool false, .bool false, .slice none 0 0, .int .i64 0, .string { data := #[] }, .bool false, .slice none 0 0, .slice none 0 0, .slice none 0 0] 30)).alloc (.cells #[.string { data := #[] }, .int .i64 0, .int .i64 0, .string { data := #[] }, .string { data := #[] }, .string { data := #[] }, .slice none 0 0, .slice none 0 0, .bool false, .bool false, .slice none 0 0, .int .i64 0, .string { data := #[] }, .bool false, .slice none 0 0, .slice none 0 0, .slice none 0 0] 30)).heap[w.heap.size]? = some (.cells #[.string { data := #[] }, .int .i64 0, .int .i64 0, .string { data := #[] }, .string { data := #[] }, .string { data := #[] }, .slice none 0 0, .slice none 0 0, .bool false, .bool false, .slice none 0 0, .int .i64 0, .string { data := #[] }, .bool false, .slice none 0 0, .slice none 0 0, .slice none 0 0] 30 (0, 0))) := hide (((Ext.refl _).alloc _).kept (new_block w _))
  have HAE : Hid (Ext w ((w.alloc (.cells #[.string { data := #[] }, .int .i64 0, .int .i64 0, .string { data := #[] }, .string { data := #[] }, .string { data := #[] }, .slice none 0 0, .slice none 0 0, .bool false, .bool false, .slice none 0 0, .int .i64 0, .string { data := #[] }, .bool false, .slice none 0 0, .slice none 0 0, .slice none 0 0] 30)).alloc (.cells #[.string { data := #[] }, .int .i64 0, .int .i64 0, .string { data := #[] }, .string { data := #[] }, .string { data := #[] }, .slice none 0 0, .slice none 0 0, .bool false, .bool false, .slice none 0 0, .int .i64 0, .string { data := #[] }, .bool false, .slice none 0 0, .slice none 0 0, .slice none 0 0] 30))) := hide (((Ext.refl w).alloc _).alloc _)
  go_enter Tryz.func5, Tryz.ntmps5
  go_wp2_with (first
    | (refine wpList_store_blk rfl 30 _ _ rfl rfl (w.heap.size + 1) rfl _ _ _ rfl (unhide HA1) infoSesN rfl (by simp [Value.oneCell']) ?_; intro U HB9 hU9; have HU9 := hide hU9; have HB := hide HB9; clear hU9 HB9)
    | (refine wpList_load_blk rfl 30 _ rfl (w.heap.size + 1) rfl _ _ _ _ (unhide HB) Tryz.underlying30 rfl infoSesN ?_))
  have E0 : Ext w U := (unhide HU9).ext (unhide HAE) (fun q hq => by omega)
  have HB0 := hide ((unhide HU9).kept (unhide HA0) (by omega))
  clear HU9 HAE HA0 HA1
  refine ((unhide hcS) U E0).mono ?_
  rintro e w1 ⟨rfl, F1⟩
  have E1 := E0.trans F1
  replace HB := hide (F1.kept (unhide HB))
  replace HB0 := hide (F1.kept (unhide HB0))
  clear hcS
  go_wp2
  refine wp_region_held_drew (S := fun W => W.heap[w.heap.size + 1]? = some (.cells #[.string p, .int .i64 c, .int .i64 r, .string { data := #[] }, .string { data := #[] }, .string { data := #[] }, .slice none 0 0, .slice none 0 0, .bool false, .bool false, .slice none 0 0, .int .i64 0, .string { data := #[] }, .bool false, .slice none 0 0, .slice none 0 0, .slice none 0 0] 30 (0, 0))) (by kernel_rfl) (unhide HB) (fun hHeld => ?_)
  refine wpAnyH_take (i := 0) (v := .agg #[.string p, .int .i64 c, .int .i64 r, .string { data := #[] }, .string { data := #[] }, .string { data := #[] }, .slice none 0 0, .slice none 0 0, .bool false, .bool false, .slice none 0 0, .int .i64 0, .string { data := #[] }, .bool false, .slice none 0 0, .slice none 0 0, .slice none 0 0]) rfl (by kernel_rfl) (by kernel_rfl) (by kernel_rfl) (fun _ _ _ h => h) (Or.inl ⟨by rfl, ?_⟩) (by assumption) ?_
  · intro w' hSw; exact yields_load_blk 30 _ rfl (w.heap.size + 1) rfl _ _ _ _ hSw Tryz.underlying30 rfl infoSesN
  simp only [Act.put, List.getElem_toArray, List.getElem_cons_succ, List.getElem_cons_zero, List.setIfInBounds_toArray, List.set_cons_zero, List.set_cons_succ]
  refine wpAnyH_take (i := 2) (v := .agg #[.string p, .int .i64 c, .int .i64 r, .string { data := #[] }, .string { data := #[] }, .string { data := #[] }, .slice none 0 0, .slice none 0 0, .bool false, .bool false, .slice none 0 0, .int .i64 0, .string { data := #[] }, .bool false, .slice none 0 0, .slice none 0 0, .slice none 0 0]) rfl (by kernel_rfl) (by kernel_rfl) (by kernel_rfl) (fun _ _ _ h => h) (Or.inl ⟨by rfl, ?_⟩) (by assumption) ?_
  · intro w' hSw; exact yields_load_blk 30 _ rfl (w.heap.size + 1) rfl _ _ _ _ hSw Tryz.underlying30 rfl infoSesN
  simp only [Act.put, List.getElem_toArray, List.getElem_cons_succ, List.getElem_cons_zero, List.setIfInBounds_toArray, List.set_cons_zero, List.set_cons_succ]
  refine wpAnyH_ready (rs := [1]) (by kernel_rfl) (by simp) ?_
  refine AllReadyH.cons rfl (fun K hK => ?_) AllReadyH.nil
  go_simp
  go_wp2_with (go_at_call 18; refine ((unhide hcC) _ E1.drew).mono ?_; rintro e w4 ⟨u4, h4, p4, q4, l4, d4, rfl, o4, F4⟩; obtain ⟨u4a, u4c, h4a, h4c, p4a, p4c, q4a, q4c, l4a, l4c, d4a, d4c, rfl, rfl, rfl, rfl, rfl, rfl⟩ := o4.reads.forms; have HO4 := hide o4; have G4 := hide ((Ext.refl w1).drew.trans F4); clear o4 F4; dsimp only [sesV, newS, List.length_nil])
  refine hK.out _ _ ((unhide G4).kept (unhide HB)) (fun hHeld => ?_)
  clear hK K
  refine wpAnyH_ready (rs := [3]) (by kernel_rfl) (by simp) ?_
  refine AllReadyH.cons rfl (fun K hK => ?_) AllReadyH.nil
  go_simp
  go_wp2_with (go_at_call 20; refine ((unhide hcB) _ (E1.trans (unhide G4))).mono ?_; rintro e w2 ⟨v2, rfl, o2, F2⟩; have hc2 := hide ((unhide hcP) _ _ _ o2); obtain ⟨a2, c2, rfl⟩ := o2.slice; have G2 := hide ((unhide G4).trans F2); replace HO4 := hide ((unhide HO4).ext F2); clear o2 F2)
  refine hK.out _ _ ((unhide G2).kept (unhide HB)) (fun hHeld => ?_)
  clear hK K
  unfold blV at hc2
  refine wpAnyH_ready (rs := [4]) (by kernel_rfl) (by simp) ?_
  refine AllReadyH.cons rfl (fun K hK => ?_) AllReadyH.nil
  go_simp
  go_wp2_with (go_at_call 19; refine (unhide hc2).mono ?_; rintro e w3 ⟨u3, rfl, o3, F3⟩; obtain ⟨a3, c3, rfl⟩ := owns_slice o3; have HO3 := hide o3; have G3 := hide ((unhide G2).trans F3); replace HO4 := hide ((unhide HO4).ext F3); clear o3 F3)
  refine hK.out _ _ ((unhide G3).kept (unhide HB)) (fun hHeld => ?_)
  clear hK K
  refine wpAnyH_ready (rs := [5]) (by kernel_rfl) (by simp) ?_
  refine AllReadyH.cons rfl (fun K hK => ?_) AllReadyH.nil
  refine wp_store_blk 30 _ _ rfl rfl (w.heap.size) rfl _ _ #[.string p, .int .i64 c, .int .i64 r, .string { data := #[] }, .string { data := #[] }, .string { data := #[] }, .slice u4a 0 u4c, .slice h4a 0 h4c, .bool false, .bool false, .slice p4a 0 p4c, .int .i64 0, .string { data := #[] }, .bool false, .slice q4a 0 q4c, .slice l4a 0 l4c, .slice d4a 0 d4c] rfl ((unhide G3).kept (unhide HB0)) infoSesN rfl (by simp [Value.oneCell']) ?_
  intro X HX9 hX9
  have HX := hide HX9
  have FX := hide hX9
  refine hK.out _ _ (hX9.kept ((unhide G3).kept (unhide HB)) (by omega)) (fun hHeld => ?_)
  clear hK K HX9 hX9
  refine wpAnyH_take (i := 6) (v := ?_) rfl (by kernel_rfl) (by kernel_rfl) (by kernel_rfl) (fun _ _ _ h => h) (Or.inl ⟨by rfl, ?_⟩) (by assumption) ?_
  rotate_left
  · intro w' hSw; go_simp <;> with_reducible rfl
  simp only [Act.put, List.getElem_toArray, List.getElem_cons_succ, List.getElem_cons_zero, List.setIfInBounds_toArray, List.set_cons_zero, List.set_cons_succ]
  refine wpAnyH_take (i := 7) (v := ?_) rfl (by kernel_rfl) (by kernel_rfl) (by kernel_rfl) (fun _ _ _ h => h) (Or.inl ⟨by rfl, ?_⟩) (by assumption) ?_
  rotate_left
  · intro w' hSw; go_simp <;> with_reducible rfl
  simp only [Act.put, List.getElem_toArray, List.getElem_cons_succ, List.getElem_cons_zero, List.setIfInBounds_toArray, List.set_cons_zero, List.set_cons_succ]
  refine wpAnyH_done (by kernel_rfl) ?_ _
  go_wp2
  have v0 : X.cell? ⟨w.heap.size, 0, none⟩ = some (.string p) := cells_of (unhide HX) 0 _ rfl
  have v1 : X.cell? ⟨w.heap.size, 1, none⟩ = some (.int .i64 c) := cells_of (unhide HX) 1 _ rfl
  have v2 : X.cell? ⟨w.heap.size, 2, none⟩ = some (.int .i64 r) := cells_of (unhide HX) 2 _ rfl
  have v3 : X.cell? ⟨w.heap.size, 3, none⟩ = some (.string { data := #[] }) := cells_of (unhide HX) 3 _ rfl
  have v4 : X.cell? ⟨w.heap.size, 4, none⟩ = some (.string { data := #[] }) := cells_of (unhide HX) 4 _ rfl
  have v5 : X.cell? ⟨w.heap.size, 5, none⟩ = some (.string { data := #[] }) := cells_of (unhide HX) 5 _ rfl
  have v6 : X.cell? ⟨w.heap.size, 6, none⟩ = some (.slice u4a 0 u4c) := cells_of (unhide HX) 6 _ rfl
  have v7 : X.cell? ⟨w.heap.size, 7, none⟩ = some (.slice h4a 0 h4c) := cells_of (unhide HX) 7 _ rfl
  have v8 : X.cell? ⟨w.heap.size, 8, none⟩ = some (.bool false) := cells_of (unhide HX) 8 _ rfl
  have v9 : X.cell? ⟨w.heap.size, 9, none⟩ = some (.bool false) := cells_of (unhide HX) 9 _ rfl
  have v10 : X.cell? ⟨w.heap.size, 10, none⟩ = some (.slice p4a 0 p4c) := cells_of (unhide HX) 10 _ rfl
  have v11 : X.cell? ⟨w.heap.size, 11, none⟩ = some (.int .i64 0) := cells_of (unhide HX) 11 _ rfl
  have v12 : X.cell? ⟨w.heap.size, 12, none⟩ = some (.string { data := #[] }) := cells_of (unhide HX) 12 _ rfl
  have v13 : X.cell? ⟨w.heap.size, 13, none⟩ = some (.bool false) := cells_of (unhide HX) 13 _ rfl
  have v14 : X.cell? ⟨w.heap.size, 14, none⟩ = some (.slice q4a 0 q4c) := cells_of (unhide HX) 14 _ rfl
  have v15 : X.cell? ⟨w.heap.size, 15, none⟩ = some (.slice l4a 0 l4c) := cells_of (unhide HX) 15 _ rfl
  have v16 : X.cell? ⟨w.heap.size, 16, none⟩ = some (.slice d4a 0 d4c) := cells_of (unhide HX) 16 _ rfl
  have s1 := E1.size
  have s3 := (unhide G3).size
  have s2 := (unhide G2).size
  have s4 := (unhide G4).size
  have s0 := lt_of_block (unhide HB)
  exact bodyPost_ret (v := .tuple #[.agg #[.string p, .int .i64 c, .int .i64 r, .string { data := #[] }, .string { data := #[] }, .string { data := #[] }, .slice u4a 0 u4c, .slice h4a 0 h4c, .bool false, .bool false, .slice p4a 0 p4c, .int .i64 0, .string { data := #[] }, .bool false, .slice q4a 0 q4c, .slice l4a 0 l4c, .slice d4a 0 d4c], .slice a3 (paintL n tx (R : Int) C).length c3, .bool true]) (by simp [results, Tryz.results5, go_sem, v0, v1, v2, v3, v4, v5, v6, v7, v8, v9, v10, v11, v12, v13, v14, v15, v16]) rfl ⟨_, _, rfl, ⟨_, _, _, _, _, _, rfl, ((unhide HO4).fr (unhide FX) (fun g hg e9 => by have := ((unhide HO4).foot hg).1; have h8 : w1.drew.heap.size = w1.heap.size := rfl; omega)).reads⟩, ints_of_owns ((unhide FX).owns (unhide HO3) (fun g hg e9 => by have := ((unhide HO3).lt g hg).1; omega)), (unhide FX).ext (E1.trans (unhide G3)) (fun q hq => by omega)⟩
end Go.Proofs.YtjfnieodpdklfaaGreatDoor
