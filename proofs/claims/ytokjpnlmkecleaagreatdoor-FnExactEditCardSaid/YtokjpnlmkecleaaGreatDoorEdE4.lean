import Derived.Test.YtokjpnlmkecleaaGreatDoorGap
import Derived.Test.YtokjpnlmkecleaaGreatDoorEdK
import Derived.Test.YtokjpnlmkecleaaGreatDoorLineS2
import Derived.Deep.RegionHeld3
namespace Go.Proofs.YtokjpnlmkecleaaGreatDoor
open Go.RowKit

set_option linter.unusedSimpArgs false in
set_option maxRecDepth 10000 in
set_option maxHeartbeats 8000000 in
theorem specEdit_other (a b c : ByteArray) (v : Value) (un : List (ByteArray × ByteArray)) (ra : Option Addr) (rn rc : Nat) (w : World) (hv : LnAt w v un) (ha : a.size ≤ 1048576) (hb : b.size ≤ 1048576) (hc : c.size ≤ 1048576) (hn : un.length ≤ 1048576) (hx : ∀ j, j < un.length → (lnT un j).size ≤ 1048576 ∧ (lnH un j).size ≤ 1048576) (kd : Int) (hP : LineP a b c un.length (lnT un) (lnH un)) (n1 : ¬ kd = 1) (n2 : ¬ kd = 2) (n4 : ¬ kd = 4) (n5 : ¬ kd = 5) (n12 : ¬ kd = 12) (n13 : ¬ kd = 13) (n14 : ¬ kd = 14) (n15 : ¬ kd = 15) (n16 : ¬ kd = 16) (n17 : ¬ kd = 17) (HM : ∀ W u, Ext w W → LnAt W u un → Calls Tryz.prog 31 #[.agg #[.string a, .string b, .string c, u], .int .i64 kd] W fun e w' => e = .returned (.tuple #[.agg #[.string a, .string b, .string c, u], .int .i64 (-1)]) ∧ Ext W w') (dd : Int) (HF : ∀ W, Calls Tryz.prog 41 #[.int .i64 kd] W fun e w' => e = .returned (.int .i64 dd) ∧ Ext W w') :
    Calls Tryz.prog 9 #[.agg #[.string a, .string b, .string c, v], .agg #[.int .i64 kd, .slice ra rn rc]] w fun e w' => LnO w' w.heap.size ⟨a, b, c, un, dd⟩ e ∧ Ext w w' := by
  have infoL : (Tryz.prog.info? 25).map (·.size) = some 4 := by kernel_rfl
  obtain ⟨ao, ca, rfl, _, _⟩ := id hv
  have H1 := hide (fun W (E : Ext w W) => specLineOk_all a b c ao un.length ca (lnT un) (lnH un) W (Row2At.ext hv E) ha hb hc hx true (by simp [hP]))
  have HMv := hide (fun W (E : Ext w W) => HM W _ E (hv.ext E))
  have HFv := hide HF
  have HC := hide (fun W (E : Ext w W) => l4Copy_any a b c (.slice ao un.length ca) un.length (lnT un) (lnH un) W (Row2At.ext hv E) hn)
  clear hP hv hx HM HF
  have m1 : (kd == 1) = false := by simpa using n1
  have m2 : (kd == 2) = false := by simpa using n2
  have m4 : (kd == 4) = false := by simpa using n4
  have m5 : (kd == 5) = false := by simpa using n5
  have m12 : (kd == 12) = false := by simpa using n12
  have m13 : (kd == 13) = false := by simpa using n13
  have m14 : (kd == 14) = false := by simpa using n14
  have m15 : (kd == 15) = false := by simpa using n15
  have m16 : (kd == 16) = false := by simpa using n16
  have m17 : (kd == 17) = false := by simpa using n17
  obtain ⟨V, hV⟩ : ∃ V, V = ((w.alloc (.cells #[.string a, .string b, .string c, .slice ao un.length ca] 25)).alloc (.cells #[.int .i64 kd, .slice ra rn rc] 28)).alloc (.cells #[.string { data := #[] }, .string { data := #[] }, .string { data := #[] }, .slice none 0 0] 25) := ⟨_, rfl⟩
  have E0 : Ext w V := by rw [hV]; exact (((Ext.refl w).alloc _).alloc _).alloc _
  have HB0 : Hid (V.heap[w.heap.size]? = some (.cells #[.string a, .string b, .string c, .slice ao un.length ca] 25 (0, 0))) := hide (by rw [hV]; exact (((Ext.refl _).alloc _).alloc _).kept (new_block w _))
  have HBK : Hid (V.heap[w.heap.size + 1]? = some (.cells #[.int .i64 kd, .slice ra rn rc] 28 (0, 0))) := hide (by rw [hV]; have h := new_block (w.alloc (.cells #[.string a, .string b, .string c, .slice ao un.length ca] 25)) (.cells #[.int .i64 kd, .slice ra rn rc] 28); rw [show (w.alloc (.cells #[.string a, .string b, .string c, .slice ao un.length ca] 25)).heap.size = w.heap.size + 1 by simp] at h; exact ((Ext.refl _).alloc _).kept h)
  have HB1 : Hid (V.heap[w.heap.size + 2]? = some (.cells #[.string { data := #[] }, .string { data := #[] }, .string { data := #[] }, .slice none 0 0] 25 (0, 0))) := hide (by rw [hV]; have h := new_block ((w.alloc (.cells #[.string a, .string b, .string c, .slice ao un.length ca] 25)).alloc (.cells #[.int .i64 kd, .slice ra rn rc] 28)) (.cells #[.string { data := #[] }, .string { data := #[] }, .string { data := #[] }, .slice none 0 0] 25); rw [show ((w.alloc (.cells #[.string a, .string b, .string c, .slice ao un.length ca] 25)).alloc (.cells #[.int .i64 kd, .slice ra rn rc] 28)).heap.size = w.heap.size + 2 by simp] at h; exact h)
  have sz0 : w.heap.size + 2 < V.heap.size := lt_of_block (unhide HB1)
  have HW := hide hV
  clear hV
  go_enter Tryz.func9, Tryz.ntmps9
  go_wp2_with fail
  rw [← unhide HW]
  clear HW
  refine ((unhide H1) _ E0).mono ?_
  rintro e w1 ⟨rfl, E1⟩
  have HE0 := hide (E0.trans E1)
  replace HB0 := hide (E1.kept (unhide HB0))
  replace HBK := hide (E1.kept (unhide HBK))
  replace HB1 := hide (E1.kept (unhide HB1))
  have z1 := E1.size
  clear E0 E1 H1
  have HMc := hide ((unhide HMv) w1 (unhide HE0))
  have k0 : w1.cell? ⟨w.heap.size + 1, 0, none⟩ = some (.int .i64 kd) := cells_of (unhide HBK) 0 _ rfl
  clear HMv
  go_wp2_with (first
    | (refine wpList_load_blk rfl 25 _ rfl (w.heap.size) rfl _ _ _ _ (unhide HB0) Tryz.underlying25 rfl infoL ?_))
  refine (unhide HMc).mono ?_
  rintro e w5 ⟨rfl, E5⟩
  replace HB0 := hide (E5.kept (unhide HB0))
  replace HBK := hide (E5.kept (unhide HBK))
  replace HB1 := hide (E5.kept (unhide HB1))
  replace HE0 := hide ((unhide HE0).trans E5)
  have HN := hide (heap_alloc_new w5 (.cells #[.string { data := #[] }, .string { data := #[] }, .string { data := #[] }, .slice none 0 0] 25))
  have hz5 : w.heap.size + 2 < w5.heap.size := lt_of_block (unhide HB1)
  clear HMc E5 k0
  go_wp2_with (first
    | (refine wpList_store_blk rfl 25 _ _ rfl rfl (w5.heap.size) rfl _ _ _ rfl (unhide HN) infoL rfl (by simp [Value.oneCell']) ?_; intro U hB hU; have hU1 := hU.ext ((Ext.refl w5).alloc _) (fun q hq => by omega); replace HB0 := hide (hU1.kept (unhide HB0)); replace HBK := hide (hU1.kept (unhide HBK)); replace HB1 := hide (hU1.kept (unhide HB1)); replace HE0 := hide ((unhide HE0).trans hU1); have c0 : U.cell? ⟨w.heap.size, 0, none⟩ = some (.string a) := cells_of (unhide HB0) 0 _ rfl; have c1 : U.cell? ⟨w.heap.size, 1, none⟩ = some (.string b) := cells_of (unhide HB0) 1 _ rfl; have k0 : U.cell? ⟨w.heap.size + 1, 0, none⟩ = some (.int .i64 kd) := cells_of (unhide HBK) 0 _ rfl; have k1 : U.cell? ⟨w.heap.size + 1, 1, none⟩ = some (.slice ra rn rc) := cells_of (unhide HBK) 1 _ rfl; have zU := hU1.size; clear hB hU hU1)
    | (refine wpList_load_blk rfl 25 _ rfl (w.heap.size) rfl _ _ _ _ (unhide HB0) Tryz.underlying25 rfl infoL ?_))
  have q0 : U.cell? ⟨w.heap.size, 0, none⟩ = some (.string a) ∧ U.cell? ⟨w.heap.size, 1, none⟩ = some (.string b) ∧ U.cell? ⟨w.heap.size, 2, none⟩ = some (.string c) ∧ U.cell? ⟨w.heap.size, 3, none⟩ = some (.slice ao un.length ca) ∧ U.cell? ⟨w.heap.size + 1, 0, none⟩ = some (.int .i64 kd) := ⟨cells_of (unhide HB0) 0 _ rfl, cells_of (unhide HB0) 1 _ rfl, cells_of (unhide HB0) 2 _ rfl, cells_of (unhide HB0) 3 _ rfl, cells_of (unhide HBK) 0 _ rfl⟩
  refine wp_region_held_drew (S := fun W => W.cell? ⟨w.heap.size, 0, none⟩ = some (.string a) ∧ W.cell? ⟨w.heap.size, 1, none⟩ = some (.string b) ∧ W.cell? ⟨w.heap.size, 2, none⟩ = some (.string c) ∧ W.cell? ⟨w.heap.size, 3, none⟩ = some (.slice ao un.length ca) ∧ W.cell? ⟨w.heap.size + 1, 0, none⟩ = some (.int .i64 kd)) (by kernel_rfl) q0 (fun hHeld => ?_)
  refine wpAnyH_take (i := 0) (v := ?_) rfl (by kernel_rfl) (by kernel_rfl) (by kernel_rfl) (fun _ _ _ h => h) (Or.inl ⟨by rfl, ?_⟩) (by assumption) ?_
  rotate_left
  · intro w' hSw; go_simp <;> with_reducible rfl
  simp only [Act.put, List.getElem_toArray, List.getElem_cons_succ, List.getElem_cons_zero, List.setIfInBounds_toArray, List.set_cons_zero, List.set_cons_succ]
  refine wpAnyH_take (i := 2) (v := ?_) rfl (by kernel_rfl) (by kernel_rfl) (by kernel_rfl) (fun _ _ _ h => h) (Or.inl ⟨by rfl, ?_⟩) (by assumption) ?_
  rotate_left
  · intro w' hSw; go_simp <;> with_reducible rfl
  simp only [Act.put, List.getElem_toArray, List.getElem_cons_succ, List.getElem_cons_zero, List.setIfInBounds_toArray, List.set_cons_zero, List.set_cons_succ]
  refine wpAnyH_take (i := 3) (v := ?_) rfl (by kernel_rfl) (by kernel_rfl) (by kernel_rfl) (fun _ _ _ h => h) (Or.inl ⟨by rfl, ?_⟩) (by assumption) ?_
  rotate_left
  · intro w' hSw; go_simp <;> with_reducible rfl
  simp only [Act.put, List.getElem_toArray, List.getElem_cons_succ, List.getElem_cons_zero, List.setIfInBounds_toArray, List.set_cons_zero, List.set_cons_succ]
  refine wpAnyH_ready (rs := [1]) (by kernel_rfl) (by simp) ?_
  refine AllReadyH.cons rfl (fun K hK => ?_) AllReadyH.nil
  go_simp
  go_wp2_with (go_at_call 30; refine ((unhide HC) _ (by first | exact unhide HE0 | exact (unhide HE0).drew)).mono ?_; rintro e w6 ⟨ua, uc, rfl, HO0, E6⟩; have HO := (show Hid (Own2 w6 U.heap.size _ _ _ _ _) from HO0); clear HO0; have F6 : Ext U w6 := (by first | exact E6 | exact (Ext.refl _).drew.trans E6); have d0 := F6.kept (unhide HB0); have d1 := F6.kept (unhide HBK); have z6 := F6.size; clear E6)
  refine hK.out _ _ ⟨cells_of d0 0 _ rfl, cells_of d0 1 _ rfl, cells_of d0 2 _ rfl, cells_of d0 3 _ rfl, cells_of d1 0 _ rfl⟩ (fun hHeld => ?_)
  clear hK K
  refine wpAnyH_ready (rs := [4]) (by kernel_rfl) (by simp) ?_
  refine AllReadyH.cons rfl (fun K hK => ?_) AllReadyH.nil
  go_simp
  go_wp2_with (go_at_call 41; refine ((unhide HFv) _).mono ?_; rintro e w7 ⟨rfl, E7⟩; have F7 : Ext w6 w7 := (by first | exact E7 | exact (Ext.refl _).drew.trans E7); have e0 := F7.kept d0; have e1 := F7.kept d1; clear E7)
  refine hK.out _ _ ⟨cells_of e0 0 _ rfl, cells_of e0 1 _ rfl, cells_of e0 2 _ rfl, cells_of e0 3 _ rfl, cells_of e1 0 _ rfl⟩ (fun hHeld => ?_)
  clear hK K
  have HB17 := hide ((F6.trans F7).kept (unhide HB1))
  have HO7 := hide ((unhide HO).ext F7)
  replace HE0 := hide ((unhide HE0).trans (F6.trans F7))
  refine wpAnyH_ready (rs := [5]) (by kernel_rfl) (by simp) ?_
  refine AllReadyH.cons rfl (fun K hK => ?_) AllReadyH.nil
  refine wp_store_blk 25 _ _ rfl rfl (w.heap.size + 2) rfl _ _ #[.string a, .string b, .string c, .slice ua un.length uc] rfl (unhide HB17) infoL rfl (by simp [Value.oneCell']) ?_
  intro Z hy hf9
  have g0 := hf9.kept e0 (by omega)
  have g1 := hf9.kept e1 (by omega)
  refine hK.out _ _ ⟨cells_of g0 0 _ rfl, cells_of g0 1 _ rfl, cells_of g0 2 _ rfl, cells_of g0 3 _ rfl, cells_of g1 0 _ rfl⟩ (fun hHeld => ?_)
  have HY := hide hy
  have FY := hide hf9
  clear hK K hy hf9
  refine wpAnyH_take (i := 6) (v := ?_) rfl (by kernel_rfl) (by kernel_rfl) (by kernel_rfl) (fun _ _ _ h => h) (Or.inl ⟨by rfl, ?_⟩) (by assumption) ?_
  rotate_left
  · intro w' hSw; go_simp <;> with_reducible rfl
  simp only [Act.put, List.getElem_toArray, List.getElem_cons_succ, List.getElem_cons_zero, List.setIfInBounds_toArray, List.set_cons_zero, List.set_cons_succ]
  refine wpAnyH_done (by kernel_rfl) ?_ _
  go_wp2
  have v0 : Z.cell? ⟨w.heap.size + 2, 0, none⟩ = some (.string a) := cells_of (unhide HY) 0 _ rfl
  have v1 : Z.cell? ⟨w.heap.size + 2, 1, none⟩ = some (.string b) := cells_of (unhide HY) 1 _ rfl
  have v2 : Z.cell? ⟨w.heap.size + 2, 2, none⟩ = some (.string c) := cells_of (unhide HY) 2 _ rfl
  have v3 : Z.cell? ⟨w.heap.size + 2, 3, none⟩ = some (.slice ua un.length uc) := cells_of (unhide HY) 3 _ rfl
  exact bodyPost_ret (v := .tuple #[.agg #[.string a, .string b, .string c, .slice ua un.length uc], .int .i64 dd]) (by simp [results, Tryz.results9, go_sem, v0, v1, v2, v3]) rfl ⟨⟨_, rfl, ((unhide HO7).fr (unhide FY) (fun g hg e9 => by have := ((unhide HO7).lt g hg).1; omega)).mono (by omega)⟩, (unhide FY).ext (unhide HE0) (fun q hq => by omega)⟩
end Go.Proofs.YtokjpnlmkecleaaGreatDoor
