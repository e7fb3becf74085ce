import Derived.Test.YtbieoijeilhadaaDoorGap
import Derived.Test.YtbieoijeilhadaaDoorEdK
import Derived.Test.YtbieoijeilhadaaDoorLineS2
import Derived.Deep.RegionHeld3
import Derived.Test.YtbieoijeilhadaaDoorEdD18
namespace Go.Proofs.YtbieoijeilhadaaDoor
open Go.RowKit
set_option linter.unusedSimpArgs false in
set_option maxRecDepth 10000 in
set_option maxHeartbeats 8000000 in
theorem specEdit_other (a b c : ByteArray) (v : Value) (un : List (ByteArray × ByteArray)) (ra : Option Addr) (rn rc : Nat) (w : World) (hv : LnAt w v un) (ha : a.size ≤ 1048576) (hb : b.size ≤ 1048576) (hc : c.size ≤ 1048576) (hn : un.length ≤ 1048576) (hx : ∀ j, j < un.length → (lnT un j).size ≤ 1048576 ∧ (lnH un j).size ≤ 1048576) (kd : Int) (hP : LineP a b c un.length (lnT un) (lnH un)) (n1 : ¬ kd = 1) (n2 : ¬ kd = 2) (n4 : ¬ kd = 4) (n5 : ¬ kd = 5) (n12 : ¬ kd = 12) (n13 : ¬ kd = 13) (n14 : ¬ kd = 14) (n15 : ¬ kd = 15) (n16 : ¬ kd = 16) (n17 : ¬ kd = 17) (HM : ∀ W u, Ext w W → LnAt W u un → Calls Tryd.prog 124 #[.agg #[.string a, .string b, .string c, u], .int .i64 kd] W fun e w' => e = .returned (.tuple #[.agg #[.string a, .string b, .string c, u], .int .i64 (-1)]) ∧ Ext W w') (dd : Int) (HF : ∀ W, Calls Tryd.prog 132 #[.int .i64 kd] W fun e w' => e = .returned (.int .i64 dd) ∧ Ext W w') :
    Calls Tryd.prog 111 #[.agg #[.string a, .string b, .string c, v], .agg #[.int .i64 kd, .slice ra rn rc]] w fun e w' => LnO w' w.heap.size ⟨a, b, c, un, dd⟩ e ∧ Ext w w' := by
  have infoL : (Tryd.prog.info? 46).map (·.size) = some 4 := by kernel_rfl
  obtain ⟨ao, ca, rfl, _, _⟩ := id hv
  have H1 := hide (fun W (E : Ext w W) => specLineOk_all a b c ao un.length ca (lnT un) (lnH un) W (Row2At.ext hv E) ha hb hc hx true (by simp [hP]))
  have HMv := hide (fun W (E : Ext w W) => HM W _ E (hv.ext E))
  have HFv := hide HF
  have HC := hide (fun W (E : Ext w W) => l4Copy_any a b c (.slice ao un.length ca) un.length (lnT un) (lnH un) W (Row2At.ext hv E) hn)
  clear hP hv hx HM HF
  have m1 : (kd == 1) = false := by simpa using n1
  have m2 : (kd == 2) = false := by simpa using n2
  have m4 : (kd == 4) = false := by simpa using n4
  have m5 : (kd == 5) = false := by simpa using n5
  have m12 : (kd == 12) = false := by simpa using n12
  have m13 : (kd == 13) = false := by simpa using n13
  have m14 : (kd == 14) = false := by simpa using n14
  have m15 : (kd == 15) = false := by simpa using n15
  have m16 : (kd == 16) = false := by simpa using n16
  have m17 : (kd == 17) = false := by simpa using n17
  obtain ⟨V, hV⟩ : ∃ V, V = ((w.alloc (.cells #[.string a, .string b, .string c, .slice ao un.length ca] 46)).alloc (.cells #[.int .i64 kd, .slice ra rn rc] 67)).alloc (.cells #[.string { data := #[] }, .string { data := #[] }, .string { data := #[] }, .slice none 0 0] 46) := ⟨_, rfl⟩
  have E0 : Ext w V := by rw [hV]; exact (((Ext.refl w).alloc _).alloc _).alloc _
  have HB0 : Hid (V.heap[w.heap.size]? = some (.cells #[.string a, .string b, .string c, .slice ao un.length ca] 46 (0, 0))) := hide (by rw [hV]; exact (((Ext.refl _).alloc _).alloc _).kept (new_block w _))
  have HBK : Hid (V.heap[w.heap.size + 1]? = some (.cells #[.int .i64 kd, .slice ra rn rc] 67 (0, 0))) := hide (by rw [hV]; have h := new_block (w.alloc (.cells #[.string a, .string b, .string c, .slice ao un.length ca] 46)) (.cells #[.int .i64 kd, .slice ra rn rc] 67); rw [show (w.alloc (.cells #[.string a, .string b, .string c, .slice ao un.length ca] 46)).heap.size = w.heap.size + 1 by simp] at h; exact ((Ext.refl _).alloc _).kept h)
  have HB1 : Hid (V.heap[w.heap.size + 2]? = some (.cells #[.string { data := #[] }, .string { data := #[] }, .string { data := #[] }, .slice none 0 0] 46 (0, 0))) := hide (by rw [hV]; have h := new_block ((w.alloc (.cells #[.string a, .string b, .string c, .slice ao un.length ca] 46)).alloc (.cells #[.int .i64 kd, .slice ra rn rc] 67)) (.cells #[.string { data := #[] }, .string { data := #[] }, .string { data := #[] }, .slice none 0 0] 46); rw [show ((w.alloc (.cells #[.string a, .string b, .string c, .slice ao un.length ca] 46)).alloc (.cells #[.int .i64 kd, .slice ra rn rc] 67)).heap.size = w.heap.size + 2 by simp] at h; exact h)
  have sz0 : w.heap.size + 2 < V.heap.size := lt_of_block (unhide HB1)
  have HW := hide hV
  clear hV
  go_enter Tryd.func111, Tryd.ntmps111
  go_wp2_with fail
  rw [← unhide HW]
  clear HW
  refine ((unhide H1) _ E0).mono ?_
  rintro e w1 ⟨rfl, E1⟩
  have HE0 := hide (E0.trans E1)
  replace HB0 := hide (E1.kept (unhide HB0))
  replace HBK := hide (E1.kept (unhide HBK))
  replace HB1 := hide (E1.kept (unhide HB1))
  have z1 := E1.size
  clear E0 E1 H1
  have HMc := hide ((unhide HMv) w1 (unhide HE0))
  have k0 : w1.cell? ⟨w.heap.size + 1, 0, none⟩ = some (.int .i64 kd) := cells_of (unhide HBK) 0 _ rfl
  clear HMv
  go_wp2_with (first
    | (refine wpList_load_blk rfl 46 _ rfl (w.heap.size) rfl _ _ _ _ (unhide HB0) Tryd.underlying46 rfl infoL ?_))
  refine (unhide HMc).mono ?_
  rintro e w5 ⟨rfl, E5⟩
  replace HB0 := hide (E5.kept (unhide HB0))
  replace HBK := hide (E5.kept (unhide HBK))
  replace HB1 := hide (E5.kept (unhide HB1))
  replace HE0 := hide ((unhide HE0).trans E5)
  have HN := hide (heap_alloc_new w5 (.cells #[.string { data := #[] }, .string { data := #[] }, .string { data := #[] }, .slice none 0 0] 46))
  have hz5 : w.heap.size + 2 < w5.heap.size := lt_of_block (unhide HB1)
  clear HMc E5 k0
  go_wp2_with (first
    | (refine wpList_store_blk rfl 46 _ _ rfl rfl (w5.heap.size) rfl _ _ _ rfl (unhide HN) infoL rfl (by simp [Value.oneCell']) ?_; intro U hB hU; have hU1 := hU.ext ((Ext.refl w5).alloc _) (fun q hq => by omega); replace HB0 := hide (hU1.kept (unhide HB0)); replace HBK := hide (hU1.kept (unhide HBK)); replace HB1 := hide (hU1.kept (unhide HB1)); replace HE0 := hide ((unhide HE0).trans hU1); have c0 : U.cell? ⟨w.heap.size, 0, none⟩ = some (.string a) := cells_of (unhide HB0) 0 _ rfl; have c1 : U.cell? ⟨w.heap.size, 1, none⟩ = some (.string b) := cells_of (unhide HB0) 1 _ rfl; have k0 : U.cell? ⟨w.heap.size + 1, 0, none⟩ = some (.int .i64 kd) := cells_of (unhide HBK) 0 _ rfl; have k1 : U.cell? ⟨w.heap.size + 1, 1, none⟩ = some (.slice ra rn rc) := cells_of (unhide HBK) 1 _ rfl; have zU := hU1.size; clear hB hU hU1)
    | (refine wpList_load_blk rfl 46 _ rfl (w.heap.size) rfl _ _ _ _ (unhide HB0) Tryd.underlying46 rfl infoL ?_))
  have q0 : U.cell? ⟨w.heap.size, 0, none⟩ = some (.string a) ∧ U.cell? ⟨w.heap.size, 1, none⟩ = some (.string b) ∧ U.cell? ⟨w.heap.size, 2, none⟩ = some (.string c) ∧ U.cell? ⟨w.heap.size, 3, none⟩ = some (.slice ao un.length ca) ∧ U.cell? ⟨w.heap.size + 1, 0, none⟩ = some (.int .i64 kd) := ⟨cells_of (unhide HB0) 0 _ rfl, cells_of (unhide HB0) 1 _ rfl, cells_of (unhide HB0) 2 _ rfl, cells_of (unhide HB0) 3 _ rfl, cells_of (unhide HBK) 0 _ rfl⟩
  refine wp_region_held_drew (S := fun W => W.cell? ⟨w.heap.size, 0, none⟩ = some (.string a) ∧ W.cell? ⟨w.heap.size, 1, none⟩ = some (.string b) ∧ W.cell? ⟨w.heap.size, 2, none⟩ = some (.string c) ∧ W.cell? ⟨w.heap.size, 3, none⟩ = some (.slice ao un.length ca) ∧ W.cell? ⟨w.heap.size + 1, 0, none⟩ = some (.int .i64 kd)) (by kernel_rfl) q0 (fun hHeld => ?_)
  refine wpAnyH_take (i := 0) (v := ?_) rfl (by kernel_rfl) (by kernel_rfl) (by kernel_rfl) (fun _ _ _ h => h) (Or.inl ⟨by rfl, ?_⟩) (by assumption) ?_
  rotate_left
  · intro w' hSw; go_simp <;> with_reducible rfl
  simp only [Act.put, qA, qB, qC, qD, qE, qF]
  refine wpAnyH_take (i := 2) (v := ?_) rfl (by kernel_rfl) (by kernel_rfl) (by kernel_rfl) (fun _ _ _ h => h) (Or.inl ⟨by rfl, ?_⟩) (by assumption) ?_
  rotate_left
  · intro w' hSw; go_simp <;> with_reducible rfl
  simp only [Act.put, qA, qB, qC, qD, qE, qF]
  refine wpAnyH_take (i := 3) (v := ?_) rfl (by kernel_rfl) (by kernel_rfl) (by kernel_rfl) (fun _ _ _ h => h) (Or.inl ⟨by rfl, ?_⟩) (by assumption) ?_
  rotate_left
  · intro w' hSw; go_simp <;> with_reducible rfl
  simp only [Act.put, qA, qB, qC, qD, qE, qF]
  refine wpAnyH_ready (rs := [1]) (by kernel_rfl) (by simp) ?_
  refine AllReadyH.cons rfl (fun K hK => ?_) AllReadyH.nil
  go_simp
  go_wp2_with (go_at_call 123; refine ((unhide HC) _ (by first | exact unhide HE0 | exact (unhide HE0).drew)).mono ?_; rintro e w6 ⟨ua, uc, rfl, HO0, E6⟩; have HO := (show Hid (Own2 w6 U.heap.size _ _ _ _ _) from HO0); clear HO0; have F6 : Ext U w6 := (by first | exact E6 | exact (Ext.refl _).drew.trans E6); have d0 := F6.kept (unhide HB0); have d1 := F6.kept (unhide HBK); have z6 := F6.size; clear E6)
  refine hK.out _ _ ⟨cells_of d0 0 _ rfl, cells_of d0 1 _ rfl, cells_of d0 2 _ rfl, cells_of d0 3 _ rfl, cells_of d1 0 _ rfl⟩ (fun hHeld => ?_)
  clear hK K
  refine wpAnyH_ready (rs := [4]) (by kernel_rfl) (by simp) ?_
  refine AllReadyH.cons rfl (fun K hK => ?_) AllReadyH.nil
  go_simp
  go_wp2_with (go_at_call 132; refine ((unhide HFv) _).mono ?_; rintro e w7 ⟨rfl, E7⟩; have F7 : Ext w6 w7 := (by first | exact E7 | exact (Ext.refl _).drew.trans E7); have e0 := F7.kept d0; have e1 := F7.kept d1; clear E7)
  refine hK.out _ _ ⟨cells_of e0 0 _ rfl, cells_of e0 1 _ rfl, cells_of e0 2 _ rfl, cells_of e0 3 _ rfl, cells_of e1 0 _ rfl⟩ (fun hHeld => ?_)
  clear hK K
  have HB17 := hide ((F6.trans F7).kept (unhide HB1))
  have HO7 := hide ((unhide HO).ext F7)
  replace HE0 := hide ((unhide HE0).trans (F6.trans F7))
  refine wpAnyH_ready (rs := [5]) (by kernel_rfl) (by simp) ?_
  refine AllReadyH.cons rfl (fun K hK => ?_) AllReadyH.nil
  refine wp_store_blk 46 _ _ rfl rfl (w.heap.size + 2) rfl _ _ #[.string a, .string b, .string c, .slice ua un.length uc] rfl (unhide HB17) infoL rfl (by simp [Value.oneCell']) ?_
  intro Z hy hf9
  have g0 := hf9.kept e0 (by omega)
  have g1 := hf9.kept e1 (by omega)
  refine hK.out _ _ ⟨cells_of g0 0 _ rfl, cells_of g0 1 _ rfl, cells_of g0 2 _ rfl, cells_of g0 3 _ rfl, cells_of g1 0 _ rfl⟩ (fun hHeld => ?_)
  have HY := hide hy
  have FY := hide hf9
  clear hK K hy hf9
  refine wpAnyH_take (i := 6) (v := ?_) rfl (by kernel_rfl) (by kernel_rfl) (by kernel_rfl) (fun _ _ _ h => h) (Or.inl ⟨by rfl, ?_⟩) (by assumption) ?_
  rotate_left
  · intro w' hSw; go_simp <;> with_reducible rfl
  simp only [Act.put, qA, qB, qC, qD, qE, qF]
  refine wpAnyH_done (by kernel_rfl) ?_ _
  go_wp2
  have v0 : Z.cell? ⟨w.heap.size + 2, 0, none⟩ = some (.string a) := cells_of (unhide HY) 0 _ rfl
  have v1 : Z.cell? ⟨w.heap.size + 2, 1, none⟩ = some (.string b) := cells_of (unhide HY) 1 _ rfl
  have v2 : Z.cell? ⟨w.heap.size + 2, 2, none⟩ = some (.string c) := cells_of (unhide HY) 2 _ rfl
  have v3 : Z.cell? ⟨w.heap.size + 2, 3, none⟩ = some (.slice ua un.length uc) := cells_of (unhide HY) 3 _ rfl
  exact bodyPost_ret (v := .tuple #[.agg #[.string a, .string b, .string c, .slice ua un.length uc], .int .i64 dd]) (by simp [results, Tryd.results111, go_sem, v0, v1, v2, v3]) rfl ⟨⟨_, rfl, ((unhide HO7).fr (unhide FY) (fun g hg e9 => by have := ((unhide HO7).lt g hg).1; omega)).mono (by omega)⟩, (unhide FY).ext (unhide HE0) (fun q hq => by omega)⟩
end Go.Proofs.YtbieoijeilhadaaDoor

namespace Go.Proofs.YtbieoijeilhadaaDoor
open Go.RowKit
set_option linter.unusedSimpArgs false in
set_option maxRecDepth 10000 in
set_option maxHeartbeats 8000000 in
theorem specEdit_14 (a b c : ByteArray) (v : Value) (un : List (ByteArray × ByteArray)) (ra : Option Addr) (rn rc : Nat) (w : World) (hv : LnAt w v un) (ha : a.size ≤ 1048576) (hb : b.size ≤ 1048576) (hc : c.size ≤ 1048576) (_hn : un.length ≤ 1048576) (hx : ∀ j, j < un.length → (lnT un j).size ≤ 1048576 ∧ (lnH un j).size ≤ 1048576) (hP : LineP a b c un.length (lnT un) (lnH un)) (HM : ∀ W u, Ext w W → LnAt W u un → Calls Tryd.prog 124 #[.agg #[.string a, .string b, .string c, u], .int .i64 14] W fun e w' => e = .returned (.tuple #[.agg #[.string a, .string b, .string c, u], .int .i64 (-1)]) ∧ Ext W w') (hn5 : un.length ≤ 50) :
    Calls Tryd.prog 111 #[.agg #[.string a, .string b, .string c, v], .agg #[.int .i64 14, .slice ra rn rc]] w fun e w' => LnO w' w.heap.size (edKw a b c un) e ∧ Ext w w' := by
  have infoL : (Tryd.prog.info? 46).map (·.size) = some 4 := by kernel_rfl
  obtain ⟨ao, ca, rfl, _, _⟩ := id hv
  have H1 := hide (fun W (E : Ext w W) => specLineOk_all a b c ao un.length ca (lnT un) (lnH un) W (Row2At.ext hv E) ha hb hc hx true (by simp [hP]))
  have HMv := hide (fun W (E : Ext w W) => HM W _ E (hv.ext E))
  have hcA := hide (fun W => l4Cut_any (baL a) (baL_bytes a) W (by rw [baL_len]; omega))
  rw [toBA_baL] at hcA
  have HCA := hide (cuts_one (baL a))
  rw [baL_len] at HCA
  have lA := cutC_len (baL a)
  rw [baL_len] at lA
  have HK0 := hide (fun l r W (E : Ext w W) => l4Killed_no a b c l r (.slice ao un.length ca) un.length (lnT un) (lnH un) W (Row2At.ext hv E) hn5)
  have HK1 := hide (fun t l r (ht : t.toList ≠ []) W (E : Ext w W) => l4Killed_yes a b c t l r ht (.slice ao un.length ca) un.length (lnT un) (lnH un) W (Row2At.ext hv E) hn5)
  rw [unL_ln] at HK1
  clear hP hv hx HM
  obtain ⟨A, hA⟩ : ∃ A, A = cutC (baL a) := ⟨_, rfl⟩
  rw [← hA] at hcA lA HCA
  obtain ⟨nA, hnA⟩ : ∃ n, A.length = n := ⟨_, rfl⟩
  rw [hnA] at lA
  have HNA := hide hnA
  have HXA := hide hA
  have HWl := hide (fun v W (hv : ClsAt W v A) => l4WordLeft_any v A W hv (by rw [hnA]; omega))
  have HG := hide (cut_good (baL a))
  rw [← hA] at HG
  clear hA hnA
  obtain ⟨V, hV⟩ : ∃ V, V = ((w.alloc (.cells #[.string a, .string b, .string c, .slice ao un.length ca] 46)).alloc (.cells #[.int .i64 14, .slice ra rn rc] 67)).alloc (.cells #[.string { data := #[] }, .string { data := #[] }, .string { data := #[] }, .slice none 0 0] 46) := ⟨_, rfl⟩
  have E0 : Ext w V := by rw [hV]; exact (((Ext.refl w).alloc _).alloc _).alloc _
  have HB0 : Hid (V.heap[w.heap.size]? = some (.cells #[.string a, .string b, .string c, .slice ao un.length ca] 46 (0, 0))) := hide (by rw [hV]; exact (((Ext.refl _).alloc _).alloc _).kept (new_block w _))
  have HBK : Hid (V.heap[w.heap.size + 1]? = some (.cells #[.int .i64 14, .slice ra rn rc] 67 (0, 0))) := hide (by rw [hV]; have h := new_block (w.alloc (.cells #[.string a, .string b, .string c, .slice ao un.length ca] 46)) (.cells #[.int .i64 14, .slice ra rn rc] 67); rw [show (w.alloc (.cells #[.string a, .string b, .string c, .slice ao un.length ca] 46)).heap.size = w.heap.size + 1 by simp] at h; exact ((Ext.refl _).alloc _).kept h)
  have HB1 : Hid (V.heap[w.heap.size + 2]? = some (.cells #[.string { data := #[] }, .string { data := #[] }, .string { data := #[] }, .slice none 0 0] 46 (0, 0))) := hide (by rw [hV]; have h := new_block ((w.alloc (.cells #[.string a, .string b, .string c, .slice ao un.length ca] 46)).alloc (.cells #[.int .i64 14, .slice ra rn rc] 67)) (.cells #[.string { data := #[] }, .string { data := #[] }, .string { data := #[] }, .slice none 0 0] 46); rw [show ((w.alloc (.cells #[.string a, .string b, .string c, .slice ao un.length ca] 46)).alloc (.cells #[.int .i64 14, .slice ra rn rc] 67)).heap.size = w.heap.size + 2 by simp] at h; exact h)
  have sz0 : w.heap.size + 2 < V.heap.size := lt_of_block (unhide HB1)
  have HW := hide hV
  clear hV
  go_enter Tryd.func111, Tryd.ntmps111
  go_wp2_with fail
  rw [← unhide HW]
  clear HW
  refine ((unhide H1) _ E0).mono ?_
  rintro e w1 ⟨rfl, E1⟩
  have HE0 := hide (E0.trans E1)
  replace HB0 := hide (E1.kept (unhide HB0))
  replace HBK := hide (E1.kept (unhide HBK))
  replace HB1 := hide (E1.kept (unhide HB1))
  have z1 := E1.size
  clear E0 E1 H1
  have HMc := hide ((unhide HMv) w1 (unhide HE0))
  have k0 : w1.cell? ⟨w.heap.size + 1, 0, none⟩ = some (.int .i64 14) := cells_of (unhide HBK) 0 _ rfl
  clear HMv
  go_wp2_with (first
    | (refine wpList_load_blk rfl 46 _ rfl (w.heap.size) rfl _ _ _ _ (unhide HB0) Tryd.underlying46 rfl infoL ?_))
  refine (unhide HMc).mono ?_
  rintro e w5 ⟨rfl, E5⟩
  replace HB0 := hide (E5.kept (unhide HB0))
  replace HBK := hide (E5.kept (unhide HBK))
  replace HB1 := hide (E5.kept (unhide HB1))
  replace HE0 := hide ((unhide HE0).trans E5)
  have HN := hide (heap_alloc_new w5 (.cells #[.string { data := #[] }, .string { data := #[] }, .string { data := #[] }, .slice none 0 0] 46))
  have hz5 : w.heap.size + 2 < w5.heap.size := lt_of_block (unhide HB1)
  clear HMc E5 k0
  go_wp2_with (first
    | (refine wpList_store_blk rfl 46 _ _ rfl rfl (w5.heap.size) rfl _ _ _ rfl (unhide HN) infoL rfl (by simp [Value.oneCell']) ?_; intro U hB hU; have hU1 := hU.ext ((Ext.refl w5).alloc _) (fun q hq => by omega); replace HB0 := hide (hU1.kept (unhide HB0)); replace HBK := hide (hU1.kept (unhide HBK)); replace HB1 := hide (hU1.kept (unhide HB1)); replace HE0 := hide ((unhide HE0).trans hU1); have c0 : U.cell? ⟨w.heap.size, 0, none⟩ = some (.string a) := cells_of (unhide HB0) 0 _ rfl; have c1 : U.cell? ⟨w.heap.size, 1, none⟩ = some (.string b) := cells_of (unhide HB0) 1 _ rfl; have k0 : U.cell? ⟨w.heap.size + 1, 0, none⟩ = some (.int .i64 14) := cells_of (unhide HBK) 0 _ rfl; have k1 : U.cell? ⟨w.heap.size + 1, 1, none⟩ = some (.slice ra rn rc) := cells_of (unhide HBK) 1 _ rfl; have zU := hU1.size; clear hB hU hU1)
    | (refine wpList_load_blk rfl 46 _ rfl (w.heap.size) rfl _ _ _ _ (unhide HB0) Tryd.underlying46 rfl infoL ?_))
  refine ((unhide hcA) _).mono ?_
  rintro e w6 ⟨v6, rs6, rfl, o6, E6⟩
  obtain ⟨a6, c6, rfl⟩ : ∃ a c, v6 = .slice a A.length c := by
    obtain ⟨_, ao, cc, e, _⟩ := o6.cls
    exact ⟨ao, cc, e⟩
  have H6 := hide o6
  rw [unhide HNA] at H6 ⊢
  replace HB0 := hide (E6.kept (unhide HB0))
  replace HB1 := hide (E6.kept (unhide HB1))
  replace HE0 := hide ((unhide HE0).trans E6)
  have z6 := E6.size
  clear o6 E6 hcA c0 c1 k0 k1 HBK
  go_wp2_with fail
  refine ((unhide HWl) _ _ (unhide H6).cls).mono ?_
  rintro e w7 ⟨r, rfl, hr, hWd, E7⟩
  have HWd := hide hWd
  rw [unhide HNA] at hr
  replace H6 := hide ((unhide H6).ext E7)
  replace HB0 := hide (E7.kept (unhide HB0))
  replace HB1 := hide (E7.kept (unhide HB1))
  replace HE0 := hide ((unhide HE0).trans E7)
  have z7 := E7.size
  clear hWd E7 HWl
  have q0 : w7.cell? ⟨w.heap.size, 0, none⟩ = some (.string a) ∧ w7.cell? ⟨w.heap.size, 1, none⟩ = some (.string b) ∧ w7.cell? ⟨w.heap.size, 2, none⟩ = some (.string c) ∧ w7.cell? ⟨w.heap.size, 3, none⟩ = some (.slice ao un.length ca) := ⟨cells_of (unhide HB0) 0 _ rfl, cells_of (unhide HB0) 1 _ rfl, cells_of (unhide HB0) 2 _ rfl, cells_of (unhide HB0) 3 _ rfl⟩
  have hc6 : nA ≤ c6 := by
    obtain ⟨_, _, _, e9, h9, _⟩ := (unhide H6).cls
    obtain ⟨_, _, rfl⟩ := Value.slice.inj e9
    rw [unhide HNA] at h9
    exact h9
  have hwdl : wdL A = nA - r := by
    have h9 := wdN_eq (unhide HWd)
    rw [unhide HNA] at h9
    unfold wdL
    rw [unhide HNA]
    exact h9
  have g1 : (r : Int) ≤ (nA : Int) := by omega
  have g2 : (nA : Int) ≤ (c6 : Int) := by omega
  have g3 : (r : Int) ≤ (c6 : Int) := by omega
  have g4 : (0 : Int) ≤ (r : Int) := by omega
  have HX2 := hide (fun v W (hv : ClsAt W v ((A.take r).drop 0)) => specTextOf_any v _ W hv (by have := ((unhide HCA).part 0 r).1; omega) (fun j _ => ((unhide HCA).part 0 r).2 j))
  obtain ⟨X2, hX2⟩ : ∃ x, x = toBA (textC ((A.take r).drop 0)) := ⟨_, rfl⟩
  rw [← hX2] at HX2
  have HX1 := hide (fun v W (hv : ClsAt W v ((A.take nA).drop r)) => specTextOf_any v _ W hv (by have := ((unhide HCA).part r nA).1; omega) (fun j _ => ((unhide HCA).part r nA).2 j))
  by_cases hk : r = nA
  · subst hk
    have HXO : Hid (edKw a b c un = ⟨a, b, c, un, 2⟩) := hide (by
      unfold edKw
      rw [← unhide HXA, hwdl, Nat.sub_self, if_pos rfl])
    have hX1 : toBA (textC ((A.take r).drop r)) = { data := #[] } := by
      rw [List.drop_eq_nil_of_le (by rw [List.length_take]; exact Nat.min_le_left _ _)]
      rfl
    rw [hX1] at HX1
    have CX2 : Hid (ClsAt w7 (.slice a6 r c6) ((A.take r).drop 0)) := hide (by
      have hcl := (unhide H6).cls
      rw [List.drop_zero, ← unhide HNA, List.take_length, unhide HNA]
      exact hcl)
    clear hX1 hX2 hwdl HWd
    by_cases hcr : c6 = r
    · subst hcr
      have CX1 : Hid (ClsAt w7 (.slice a6 0 0) ((A.take c6).drop c6)) := hide (by
        have hcl := (unhide H6).cls
        rw [← unhide HNA] at hcl
        have := hcl.cut c6 c6 0 (by omega) (by rw [unhide HNA]; omega) (by omega) a6 (.inr (by omega))
        rw [Nat.sub_self] at this
        exact this)
      clear H6
      go_wp2_with fail
      refine wp_region_held_drew (S := fun W => W.cell? ⟨w.heap.size, 0, none⟩ = some (.string a) ∧ W.cell? ⟨w.heap.size, 1, none⟩ = some (.string b) ∧ W.cell? ⟨w.heap.size, 2, none⟩ = some (.string c) ∧ W.cell? ⟨w.heap.size, 3, none⟩ = some (.slice ao un.length ca)) (by kernel_rfl) q0 (fun hHeld => ?_)
      refine wpAnyH_take (i := 0) (v := ?_) rfl (by kernel_rfl) (by kernel_rfl) (by kernel_rfl) (fun _ _ _ h => h) (Or.inl ⟨by rfl, ?_⟩) (by assumption) ?_
      rotate_left
      · intro w' hSw; go_simp <;> with_reducible rfl
      simp only [Act.put, qA, qB, qC, qD, qE, qF]
      refine wpAnyH_take (i := 1) (v := ?_) rfl (by kernel_rfl) (by kernel_rfl) (by kernel_rfl) (fun _ _ _ h => h) (Or.inl ⟨by rfl, ?_⟩) (by assumption) ?_
      rotate_left
      · intro w' hSw; go_simp <;> with_reducible rfl
      simp only [Act.put, qA, qB, qC, qD, qE, qF]
      refine wpAnyH_take (i := 2) (v := ?_) rfl (by kernel_rfl) (by kernel_rfl) (by kernel_rfl) (fun _ _ _ h => h) (Or.inl ⟨by rfl, ?_⟩) (by assumption) ?_
      rotate_left
      · intro w' hSw; go_simp <;> with_reducible rfl
      simp only [Act.put, qA, qB, qC, qD, qE, qF]
      refine wpAnyH_take (i := 3) (v := ?_) rfl (by kernel_rfl) (by kernel_rfl) (by kernel_rfl) (fun _ _ _ h => h) (Or.inl ⟨by rfl, ?_⟩) (by assumption) ?_
      rotate_left
      · intro w' hSw; go_simp <;> with_reducible rfl
      simp only [Act.put, qA, qB, qC, qD, qE, qF]
      refine wpAnyH_take (i := 5) (v := ?_) rfl (by kernel_rfl) (by kernel_rfl) (by kernel_rfl) (fun _ _ _ h => h) (Or.inl ⟨by rfl, ?_⟩) (by assumption) ?_
      rotate_left
      · intro w' hSw; go_simp <;> with_reducible rfl
      simp only [Act.put, qA, qB, qC, qD, qE, qF]
      refine wpAnyH_take (i := 6) (v := ?_) rfl (by kernel_rfl) (by kernel_rfl) (by kernel_rfl) (fun _ _ _ h => h) (Or.inl ⟨by rfl, ?_⟩) (by assumption) ?_
      rotate_left
      · intro w' hSw; go_simp <;> with_reducible rfl
      simp only [Act.put, qA, qB, qC, qD, qE, qF]
      refine wpAnyH_take (i := 7) (v := ?_) rfl (by kernel_rfl) (by kernel_rfl) (by kernel_rfl) (fun _ _ _ h => h) (Or.inl ⟨by rfl, ?_⟩) (by assumption) ?_
      rotate_left
      · intro w' hSw; go_simp <;> with_reducible rfl
      simp only [Act.put, qA, qB, qC, qD, qE, qF]
      refine wpAnyH_take (i := 9) (v := ?_) rfl (by kernel_rfl) (by kernel_rfl) (by kernel_rfl) (fun _ _ _ h => h) (Or.inl ⟨by rfl, ?_⟩) (by assumption) ?_
      rotate_left
      · intro w' hSw; go_simp <;> with_reducible rfl
      simp only [Act.put, qA, qB, qC, qD, qE, qF]
      refine wpAnyH_take (i := 10) (v := ?_) rfl (by kernel_rfl) (by kernel_rfl) (by kernel_rfl) (fun _ _ _ h => h) (Or.inl ⟨by rfl, ?_⟩) (by assumption) ?_
      rotate_left
      · intro w' hSw; go_simp <;> with_reducible rfl
      simp only [Act.put, qA, qB, qC, qD, qE, qF]
      refine wpAnyH_ready (rs := [4]) (by kernel_rfl) (by simp) ?_
      refine AllReadyH.cons rfl (fun K hK => ?_) AllReadyH.nil
      go_simp
      go_wp2_with (go_at_call 56; refine ((unhide HX1) _ _ ((unhide CX1).ext (by first | exact Ext.refl _ | exact (Ext.refl _).drew))).mono ?_; rintro e w8 ⟨rfl, E8⟩; have F8 : Ext w7 w8 := (by first | exact E8 | exact (Ext.refl _).drew.trans E8); have d0 := F8.kept (unhide HB0); clear E8)
      refine hK.out _ _ ⟨cells_of d0 0 _ rfl, cells_of d0 1 _ rfl, cells_of d0 2 _ rfl, cells_of d0 3 _ rfl⟩ (fun hHeld => ?_)
      clear hK K
      refine wpAnyH_ready (rs := [8]) (by kernel_rfl) (by simp) ?_
      refine AllReadyH.cons rfl (fun K hK => ?_) AllReadyH.nil
      go_simp
      go_wp2_with (go_at_call 56; refine ((unhide HX2) _ _ ((unhide CX2).ext (by first | exact F8 | exact F8.drew))).mono ?_; rintro e w9 ⟨rfl, E9⟩; have F9 : Ext w7 w9 := F8.trans (by first | exact E9 | exact (Ext.refl _).drew.trans E9); have d1 := F9.kept (unhide HB0); clear E9)
      refine hK.out _ _ ⟨cells_of d1 0 _ rfl, cells_of d1 1 _ rfl, cells_of d1 2 _ rfl, cells_of d1 3 _ rfl⟩ (fun hHeld => ?_)
      clear hK K
      refine wpAnyH_ready (rs := [11]) (by kernel_rfl) (by simp) ?_
      refine AllReadyH.cons rfl (fun K hK => ?_) AllReadyH.nil
      go_simp
      go_wp2_with (go_at_call 127; refine ((unhide HK0) _ _ _ ((unhide HE0).trans (by first | exact F9 | exact F9.drew))).mono ?_; rintro e wa ⟨va, rfl, hO, Ea⟩; obtain ⟨ua, uc, rfl⟩ : ∃ ua uc, va = .slice ua un.length uc := (by obtain ⟨x, y, e, _⟩ := hO.reads; exact ⟨x, y, e⟩); have Fa : Ext w7 wa := F9.trans (by first | exact Ea | exact (Ext.refl _).drew.trans Ea); have HO0 := (show Hid (Own2 wa w9.heap.size _ _ _ _ _) from hO); have d2 := Fa.kept (unhide HB0); have HB1a := hide (Fa.kept (unhide HB1)); have HEa := hide ((unhide HE0).trans Fa); have sa := Fa.size; have s9 := F9.size; clear hO Ea)
      refine hK.out _ _ ⟨cells_of d2 0 _ rfl, cells_of d2 1 _ rfl, cells_of d2 2 _ rfl, cells_of d2 3 _ rfl⟩ (fun hHeld => ?_)
      clear hK K
      refine wpAnyH_take (i := 12) (v := ?_) rfl (by kernel_rfl) (by kernel_rfl) (by kernel_rfl) (fun _ _ _ h => h) (Or.inl ⟨by rfl, ?_⟩) (by assumption) ?_
      rotate_left
      · intro w' hSw; go_simp <;> with_reducible rfl
      simp only [Act.put, qA, qB, qC, qD, qE, qF]
      refine wpAnyH_take (i := 13) (v := ?_) rfl (by kernel_rfl) (by kernel_rfl) (by kernel_rfl) (fun _ _ _ h => h) (Or.inl ⟨by rfl, ?_⟩) (by assumption) ?_
      rotate_left
      · intro w' hSw; go_simp <;> with_reducible rfl
      simp only [Act.put, qA, qB, qC, qD, qE, qF]
      refine wpAnyH_ready (rs := [14]) (by kernel_rfl) (by simp) ?_
      refine AllReadyH.cons rfl (fun K hK => ?_) AllReadyH.nil
      refine wp_store_blk 46 _ _ rfl rfl (w.heap.size + 2) rfl _ _ #[.string a, .string b, .string c, .slice ua un.length uc] rfl (unhide HB1a) infoL rfl (by simp [Value.oneCell']) ?_
      intro Z hy hf9
      have hb9 := hf9.kept d2 (by omega)
      refine hK.out _ _ ⟨cells_of hb9 0 _ rfl, cells_of hb9 1 _ rfl, cells_of hb9 2 _ rfl, cells_of hb9 3 _ rfl⟩ (fun hHeld => ?_)
      have HY := hide hy
      have FY := hide hf9
      clear hK K hy hf9 hb9
      refine wpAnyH_take (i := 15) (v := ?_) rfl (by kernel_rfl) (by kernel_rfl) (by kernel_rfl) (fun _ _ _ h => h) (Or.inl ⟨by rfl, ?_⟩) (by assumption) ?_
      rotate_left
      · intro w' hSw; go_simp <;> with_reducible rfl
      simp only [Act.put, qA, qB, qC, qD, qE, qF]
      refine wpAnyH_done (by kernel_rfl) ?_ _
      go_wp2
      have v0 : Z.cell? ⟨w.heap.size + 2, 0, none⟩ = some (.string a) := cells_of (unhide HY) 0 _ rfl
      have v1 : Z.cell? ⟨w.heap.size + 2, 1, none⟩ = some (.string b) := cells_of (unhide HY) 1 _ rfl
      have v2 : Z.cell? ⟨w.heap.size + 2, 2, none⟩ = some (.string c) := cells_of (unhide HY) 2 _ rfl
      have v3 : Z.cell? ⟨w.heap.size + 2, 3, none⟩ = some (.slice ua un.length uc) := cells_of (unhide HY) 3 _ rfl
      exact bodyPost_ret (v := .tuple #[.agg #[.string a, .string b, .string c, .slice ua un.length uc], .int .i64 2]) (by simp [results, Tryd.results111, go_sem, v0, v1, v2, v3]) rfl (by rw [unhide HXO]; exact ⟨⟨_, rfl, ((unhide HO0).fr (unhide FY) (fun g hg e9 => by have := ((unhide HO0).lt g hg).1; omega)).mono (by omega)⟩, (unhide FY).ext (unhide HEa) (fun q hq => by omega)⟩)
    · obtain ⟨g6, hg6⟩ : ∃ g, a6 = some ⟨g, 0, none⟩ := by
        obtain ⟨_, ⟨ys, hy, _⟩, _⟩ := unhide H6
        rcases hy.2 with ⟨e1, e0⟩ | ⟨g, cc, cur, e0, _⟩
        · have := (Value.slice.inj e1).2.2; omega
        · exact ⟨g, (Value.slice.inj e0).1⟩
      subst hg6
      have CX1 : Hid (ClsAt w7 (.slice (some ⟨g6, r * 2, none⟩) 0 (c6 - r)) ((A.take r).drop r)) := hide (by
        have hcl := (unhide H6).cls
        rw [← unhide HNA] at hcl
        have := hcl.cut r r (c6 - r) (by omega) (by rw [unhide HNA]; omega) (by omega) (some ⟨g6, r * 2, none⟩) (.inr (by omega))
        rw [Nat.sub_self] at this
        exact this)
      clear H6
      go_wp2_with fail
      refine wp_region_held_drew (S := fun W => W.cell? ⟨w.heap.size, 0, none⟩ = some (.string a) ∧ W.cell? ⟨w.heap.size, 1, none⟩ = some (.string b) ∧ W.cell? ⟨w.heap.size, 2, none⟩ = some (.string c) ∧ W.cell? ⟨w.heap.size, 3, none⟩ = some (.slice ao un.length ca)) (by kernel_rfl) q0 (fun hHeld => ?_)
      refine wpAnyH_take (i := 0) (v := ?_) rfl (by kernel_rfl) (by kernel_rfl) (by kernel_rfl) (fun _ _ _ h => h) (Or.inl ⟨by rfl, ?_⟩) (by assumption) ?_
      rotate_left
      · intro w' hSw; go_simp <;> with_reducible rfl
      simp only [Act.put, qA, qB, qC, qD, qE, qF]
      refine wpAnyH_take (i := 1) (v := ?_) rfl (by kernel_rfl) (by kernel_rfl) (by kernel_rfl) (fun _ _ _ h => h) (Or.inl ⟨by rfl, ?_⟩) (by assumption) ?_
      rotate_left
      · intro w' hSw; go_simp <;> with_reducible rfl
      simp only [Act.put, qA, qB, qC, qD, qE, qF]
      refine wpAnyH_take (i := 2) (v := ?_) rfl (by kernel_rfl) (by kernel_rfl) (by kernel_rfl) (fun _ _ _ h => h) (Or.inl ⟨by rfl, ?_⟩) (by assumption) ?_
      rotate_left
      · intro w' hSw; go_simp <;> with_reducible rfl
      simp only [Act.put, qA, qB, qC, qD, qE, qF]
      refine wpAnyH_take (i := 3) (v := ?_) rfl (by kernel_rfl) (by kernel_rfl) (by kernel_rfl) (fun _ _ _ h => h) (Or.inl ⟨by rfl, ?_⟩) (by assumption) ?_
      rotate_left
      · intro w' hSw; go_simp <;> with_reducible rfl
      simp only [Act.put, qA, qB, qC, qD, qE, qF]
      refine wpAnyH_take (i := 5) (v := ?_) rfl (by kernel_rfl) (by kernel_rfl) (by kernel_rfl) (fun _ _ _ h => h) (Or.inl ⟨by rfl, ?_⟩) (by assumption) ?_
      rotate_left
      · intro w' hSw; go_simp <;> with_reducible rfl
      simp only [Act.put, qA, qB, qC, qD, qE, qF]
      refine wpAnyH_take (i := 6) (v := ?_) rfl (by kernel_rfl) (by kernel_rfl) (by kernel_rfl) (fun _ _ _ h => h) (Or.inl ⟨by rfl, ?_⟩) (by assumption) ?_
      rotate_left
      · intro w' hSw; go_simp <;> with_reducible rfl
      simp only [Act.put, qA, qB, qC, qD, qE, qF]
      refine wpAnyH_take (i := 7) (v := ?_) rfl (by kernel_rfl) (by kernel_rfl) (by kernel_rfl) (fun _ _ _ h => h) (Or.inl ⟨by rfl, ?_⟩) (by assumption) ?_
      rotate_left
      · intro w' hSw; go_simp <;> with_reducible rfl
      simp only [Act.put, qA, qB, qC, qD, qE, qF]
      refine wpAnyH_take (i := 9) (v := ?_) rfl (by kernel_rfl) (by kernel_rfl) (by kernel_rfl) (fun _ _ _ h => h) (Or.inl ⟨by rfl, ?_⟩) (by assumption) ?_
      rotate_left
      · intro w' hSw; go_simp <;> with_reducible rfl
      simp only [Act.put, qA, qB, qC, qD, qE, qF]
      refine wpAnyH_take (i := 10) (v := ?_) rfl (by kernel_rfl) (by kernel_rfl) (by kernel_rfl) (fun _ _ _ h => h) (Or.inl ⟨by rfl, ?_⟩) (by assumption) ?_
      rotate_left
      · intro w' hSw; go_simp <;> with_reducible rfl
      simp only [Act.put, qA, qB, qC, qD, qE, qF]
      refine wpAnyH_ready (rs := [4]) (by kernel_rfl) (by simp) ?_
      refine AllReadyH.cons rfl (fun K hK => ?_) AllReadyH.nil
      go_simp
      go_wp2_with (go_at_call 56; refine ((unhide HX1) _ _ ((unhide CX1).ext (by first | exact Ext.refl _ | exact (Ext.refl _).drew))).mono ?_; rintro e w8 ⟨rfl, E8⟩; have F8 : Ext w7 w8 := (by first | exact E8 | exact (Ext.refl _).drew.trans E8); have d0 := F8.kept (unhide HB0); clear E8)
      refine hK.out _ _ ⟨cells_of d0 0 _ rfl, cells_of d0 1 _ rfl, cells_of d0 2 _ rfl, cells_of d0 3 _ rfl⟩ (fun hHeld => ?_)
      clear hK K
      refine wpAnyH_ready (rs := [8]) (by kernel_rfl) (by simp) ?_
      refine AllReadyH.cons rfl (fun K hK => ?_) AllReadyH.nil
      go_simp
      go_wp2_with (go_at_call 56; refine ((unhide HX2) _ _ ((unhide CX2).ext (by first | exact F8 | exact F8.drew))).mono ?_; rintro e w9 ⟨rfl, E9⟩; have F9 : Ext w7 w9 := F8.trans (by first | exact E9 | exact (Ext.refl _).drew.trans E9); have d1 := F9.kept (unhide HB0); clear E9)
      refine hK.out _ _ ⟨cells_of d1 0 _ rfl, cells_of d1 1 _ rfl, cells_of d1 2 _ rfl, cells_of d1 3 _ rfl⟩ (fun hHeld => ?_)
      clear hK K
      refine wpAnyH_ready (rs := [11]) (by kernel_rfl) (by simp) ?_
      refine AllReadyH.cons rfl (fun K hK => ?_) AllReadyH.nil
      go_simp
      go_wp2_with (go_at_call 127; refine ((unhide HK0) _ _ _ ((unhide HE0).trans (by first | exact F9 | exact F9.drew))).mono ?_; rintro e wa ⟨va, rfl, hO, Ea⟩; obtain ⟨ua, uc, rfl⟩ : ∃ ua uc, va = .slice ua un.length uc := (by obtain ⟨x, y, e, _⟩ := hO.reads; exact ⟨x, y, e⟩); have Fa : Ext w7 wa := F9.trans (by first | exact Ea | exact (Ext.refl _).drew.trans Ea); have HO0 := (show Hid (Own2 wa w9.heap.size _ _ _ _ _) from hO); have d2 := Fa.kept (unhide HB0); have HB1a := hide (Fa.kept (unhide HB1)); have HEa := hide ((unhide HE0).trans Fa); have sa := Fa.size; have s9 := F9.size; clear hO Ea)
      refine hK.out _ _ ⟨cells_of d2 0 _ rfl, cells_of d2 1 _ rfl, cells_of d2 2 _ rfl, cells_of d2 3 _ rfl⟩ (fun hHeld => ?_)
      clear hK K
      refine wpAnyH_take (i := 12) (v := ?_) rfl (by kernel_rfl) (by kernel_rfl) (by kernel_rfl) (fun _ _ _ h => h) (Or.inl ⟨by rfl, ?_⟩) (by assumption) ?_
      rotate_left
      · intro w' hSw; go_simp <;> with_reducible rfl
      simp only [Act.put, qA, qB, qC, qD, qE, qF]
      refine wpAnyH_take (i := 13) (v := ?_) rfl (by kernel_rfl) (by kernel_rfl) (by kernel_rfl) (fun _ _ _ h => h) (Or.inl ⟨by rfl, ?_⟩) (by assumption) ?_
      rotate_left
      · intro w' hSw; go_simp <;> with_reducible rfl
      simp only [Act.put, qA, qB, qC, qD, qE, qF]
      refine wpAnyH_ready (rs := [14]) (by kernel_rfl) (by simp) ?_
      refine AllReadyH.cons rfl (fun K hK => ?_) AllReadyH.nil
      refine wp_store_blk 46 _ _ rfl rfl (w.heap.size + 2) rfl _ _ #[.string a, .string b, .string c, .slice ua un.length uc] rfl (unhide HB1a) infoL rfl (by simp [Value.oneCell']) ?_
      intro Z hy hf9
      have hb9 := hf9.kept d2 (by omega)
      refine hK.out _ _ ⟨cells_of hb9 0 _ rfl, cells_of hb9 1 _ rfl, cells_of hb9 2 _ rfl, cells_of hb9 3 _ rfl⟩ (fun hHeld => ?_)
      have HY := hide hy
      have FY := hide hf9
      clear hK K hy hf9 hb9
      refine wpAnyH_take (i := 15) (v := ?_) rfl (by kernel_rfl) (by kernel_rfl) (by kernel_rfl) (fun _ _ _ h => h) (Or.inl ⟨by rfl, ?_⟩) (by assumption) ?_
      rotate_left
      · intro w' hSw; go_simp <;> with_reducible rfl
      simp only [Act.put, qA, qB, qC, qD, qE, qF]
      refine wpAnyH_done (by kernel_rfl) ?_ _
      go_wp2
      have v0 : Z.cell? ⟨w.heap.size + 2, 0, none⟩ = some (.string a) := cells_of (unhide HY) 0 _ rfl
      have v1 : Z.cell? ⟨w.heap.size + 2, 1, none⟩ = some (.string b) := cells_of (unhide HY) 1 _ rfl
      have v2 : Z.cell? ⟨w.heap.size + 2, 2, none⟩ = some (.string c) := cells_of (unhide HY) 2 _ rfl
      have v3 : Z.cell? ⟨w.heap.size + 2, 3, none⟩ = some (.slice ua un.length uc) := cells_of (unhide HY) 3 _ rfl
      exact bodyPost_ret (v := .tuple #[.agg #[.string a, .string b, .string c, .slice ua un.length uc], .int .i64 2]) (by simp [results, Tryd.results111, go_sem, v0, v1, v2, v3]) rfl (by rw [unhide HXO]; exact ⟨⟨_, rfl, ((unhide HO0).fr (unhide FY) (fun g hg e9 => by have := ((unhide HO0).lt g hg).1; omega)).mono (by omega)⟩, (unhide FY).ext (unhide HEa) (fun q hq => by omega)⟩)
  · obtain ⟨X1, hX1⟩ : ∃ x, x = toBA (textC ((A.take nA).drop r)) := ⟨_, rfl⟩
    rw [← hX1] at HX1
    have ht : X1.toList ≠ [] := by
      rw [hX1]
      have h9 : textC ((A.take nA).drop r) ≠ [] := textC_pos (fun c hc => (unhide HG) c (List.mem_of_mem_take (List.mem_of_mem_drop hc))) (by
        intro e
        have := congrArg List.length e
        rw [List.length_drop, List.length_take, unhide HNA] at this
        simp at this
        omega)
      intro e
      have h8 := toBA_some h9
      rw [e] at h8
      simp at h8
    have HT := hide ht
    have HXO : Hid (edKw a b c un = ⟨X2, b, X1, undoN un (a, b), 1⟩) := hide (by
      unfold edKw
      rw [← unhide HXA, hwdl, if_neg (by omega), unhide HNA, show nA - (nA - r) = r by omega, hX1, hX2, List.drop_zero]
      rw [show A.take nA = A by rw [← unhide HNA, List.take_length]])
    have g5 : ¬ c6 = r := by omega
    obtain ⟨g6, hg6⟩ : ∃ g, a6 = some ⟨g, 0, none⟩ := by
      obtain ⟨_, ⟨ys, hy, _⟩, _⟩ := unhide H6
      rcases hy.2 with ⟨e1, e0⟩ | ⟨g, cc, cur, e0, _⟩
      · have := (Value.slice.inj e1).2.2; omega
      · exact ⟨g, (Value.slice.inj e0).1⟩
    subst hg6
    have CX2 : Hid (ClsAt w7 (.slice (some ⟨g6, 0, none⟩) r c6) ((A.take r).drop 0)) := hide (by
      have hcl := (unhide H6).cls
      rw [← unhide HNA] at hcl
      have := hcl.cut 0 r c6 (by omega) (by rw [unhide HNA]; omega) (by omega) (some ⟨g6, 0, none⟩) (.inl rfl)
      simpa using this)
    have CX1 : Hid (ClsAt w7 (.slice (some ⟨g6, r * 2, none⟩) (nA - r) (c6 - r)) ((A.take nA).drop r)) := hide (by
      have hcl := (unhide H6).cls
      rw [← unhide HNA] at hcl
      exact hcl.cut r nA (c6 - r) (by omega) (by rw [unhide HNA]; omega) (by omega) (some ⟨g6, r * 2, none⟩) (.inl (ad_eq2 _ _)))
    clear hX1 hX2 hwdl HWd H6 ht
    go_wp2_with fail
    refine wp_region_held_drew (S := fun W => W.cell? ⟨w.heap.size, 0, none⟩ = some (.string a) ∧ W.cell? ⟨w.heap.size, 1, none⟩ = some (.string b) ∧ W.cell? ⟨w.heap.size, 2, none⟩ = some (.string c) ∧ W.cell? ⟨w.heap.size, 3, none⟩ = some (.slice ao un.length ca)) (by kernel_rfl) q0 (fun hHeld => ?_)
    refine wpAnyH_take (i := 0) (v := ?_) rfl (by kernel_rfl) (by kernel_rfl) (by kernel_rfl) (fun _ _ _ h => h) (Or.inl ⟨by rfl, ?_⟩) (by assumption) ?_
    rotate_left
    · intro w' hSw; go_simp <;> with_reducible rfl
    simp only [Act.put, qA, qB, qC, qD, qE, qF]
    refine wpAnyH_take (i := 1) (v := ?_) rfl (by kernel_rfl) (by kernel_rfl) (by kernel_rfl) (fun _ _ _ h => h) (Or.inl ⟨by rfl, ?_⟩) (by assumption) ?_
    rotate_left
    · intro w' hSw; go_simp <;> with_reducible rfl
    simp only [Act.put, qA, qB, qC, qD, qE, qF]
    refine wpAnyH_take (i := 2) (v := ?_) rfl (by kernel_rfl) (by kernel_rfl) (by kernel_rfl) (fun _ _ _ h => h) (Or.inl ⟨by rfl, ?_⟩) (by assumption) ?_
    rotate_left
    · intro w' hSw; go_simp <;> with_reducible rfl
    simp only [Act.put, qA, qB, qC, qD, qE, qF]
    refine wpAnyH_take (i := 3) (v := ?_) rfl (by kernel_rfl) (by kernel_rfl) (by kernel_rfl) (fun _ _ _ h => h) (Or.inl ⟨by rfl, ?_⟩) (by assumption) ?_
    rotate_left
    · intro w' hSw; go_simp <;> with_reducible rfl
    simp only [Act.put, qA, qB, qC, qD, qE, qF]
    refine wpAnyH_take (i := 5) (v := ?_) rfl (by kernel_rfl) (by kernel_rfl) (by kernel_rfl) (fun _ _ _ h => h) (Or.inl ⟨by rfl, ?_⟩) (by assumption) ?_
    rotate_left
    · intro w' hSw; go_simp <;> with_reducible rfl
    simp only [Act.put, qA, qB, qC, qD, qE, qF]
    refine wpAnyH_take (i := 6) (v := ?_) rfl (by kernel_rfl) (by kernel_rfl) (by kernel_rfl) (fun _ _ _ h => h) (Or.inl ⟨by rfl, ?_⟩) (by assumption) ?_
    rotate_left
    · intro w' hSw; go_simp <;> with_reducible rfl
    simp only [Act.put, qA, qB, qC, qD, qE, qF]
    refine wpAnyH_take (i := 7) (v := ?_) rfl (by kernel_rfl) (by kernel_rfl) (by kernel_rfl) (fun _ _ _ h => h) (Or.inl ⟨by rfl, ?_⟩) (by assumption) ?_
    rotate_left
    · intro w' hSw; go_simp <;> with_reducible rfl
    simp only [Act.put, qA, qB, qC, qD, qE, qF]
    refine wpAnyH_take (i := 9) (v := ?_) rfl (by kernel_rfl) (by kernel_rfl) (by kernel_rfl) (fun _ _ _ h => h) (Or.inl ⟨by rfl, ?_⟩) (by assumption) ?_
    rotate_left
    · intro w' hSw; go_simp <;> with_reducible rfl
    simp only [Act.put, qA, qB, qC, qD, qE, qF]
    refine wpAnyH_take (i := 10) (v := ?_) rfl (by kernel_rfl) (by kernel_rfl) (by kernel_rfl) (fun _ _ _ h => h) (Or.inl ⟨by rfl, ?_⟩) (by assumption) ?_
    rotate_left
    · intro w' hSw; go_simp <;> with_reducible rfl
    simp only [Act.put, qA, qB, qC, qD, qE, qF]
    refine wpAnyH_ready (rs := [4]) (by kernel_rfl) (by simp) ?_
    refine AllReadyH.cons rfl (fun K hK => ?_) AllReadyH.nil
    go_simp
    go_wp2_with (go_at_call 56; refine ((unhide HX1) _ _ ((unhide CX1).ext (by first | exact Ext.refl _ | exact (Ext.refl _).drew))).mono ?_; rintro e w8 ⟨rfl, E8⟩; have F8 : Ext w7 w8 := (by first | exact E8 | exact (Ext.refl _).drew.trans E8); have d0 := F8.kept (unhide HB0); clear E8)
    refine hK.out _ _ ⟨cells_of d0 0 _ rfl, cells_of d0 1 _ rfl, cells_of d0 2 _ rfl, cells_of d0 3 _ rfl⟩ (fun hHeld => ?_)
    clear hK K
    refine wpAnyH_ready (rs := [8]) (by kernel_rfl) (by simp) ?_
    refine AllReadyH.cons rfl (fun K hK => ?_) AllReadyH.nil
    go_simp
    go_wp2_with (go_at_call 56; refine ((unhide HX2) _ _ ((unhide CX2).ext (by first | exact F8 | exact F8.drew))).mono ?_; rintro e w9 ⟨rfl, E9⟩; have F9 : Ext w7 w9 := F8.trans (by first | exact E9 | exact (Ext.refl _).drew.trans E9); have d1 := F9.kept (unhide HB0); clear E9)
    refine hK.out _ _ ⟨cells_of d1 0 _ rfl, cells_of d1 1 _ rfl, cells_of d1 2 _ rfl, cells_of d1 3 _ rfl⟩ (fun hHeld => ?_)
    clear hK K
    refine wpAnyH_ready (rs := [11]) (by kernel_rfl) (by simp) ?_
    refine AllReadyH.cons rfl (fun K hK => ?_) AllReadyH.nil
    go_simp
    go_wp2_with (go_at_call 127; refine ((unhide HK1) _ _ _ (unhide HT) _ ((unhide HE0).trans (by first | exact F9 | exact F9.drew))).mono ?_; rintro e wa ⟨va, rfl, hO, Ea⟩; obtain ⟨ua, uc, rfl⟩ : ∃ ua uc, va = .slice ua (undoN un (a, b)).length uc := (by obtain ⟨x, y, e, _⟩ := hO.reads; exact ⟨x, y, e⟩); have Fa : Ext w7 wa := F9.trans (by first | exact Ea | exact (Ext.refl _).drew.trans Ea); have HO0 := (show Hid (Own2 wa w9.heap.size _ _ _ _ _) from hO); have d2 := Fa.kept (unhide HB0); have HB1a := hide (Fa.kept (unhide HB1)); have HEa := hide ((unhide HE0).trans Fa); have sa := Fa.size; have s9 := F9.size; clear hO Ea)
    refine hK.out _ _ ⟨cells_of d2 0 _ rfl, cells_of d2 1 _ rfl, cells_of d2 2 _ rfl, cells_of d2 3 _ rfl⟩ (fun hHeld => ?_)
    clear hK K
    refine wpAnyH_take (i := 12) (v := ?_) rfl (by kernel_rfl) (by kernel_rfl) (by kernel_rfl) (fun _ _ _ h => h) (Or.inl ⟨by rfl, ?_⟩) (by assumption) ?_
    rotate_left
    · intro w' hSw; go_simp <;> with_reducible rfl
    simp only [Act.put, qA, qB, qC, qD, qE, qF]
    refine wpAnyH_take (i := 13) (v := ?_) rfl (by kernel_rfl) (by kernel_rfl) (by kernel_rfl) (fun _ _ _ h => h) (Or.inl ⟨by rfl, ?_⟩) (by assumption) ?_
    rotate_left
    · intro w' hSw; go_simp <;> with_reducible rfl
    simp only [Act.put, qA, qB, qC, qD, qE, qF]
    refine wpAnyH_ready (rs := [14]) (by kernel_rfl) (by simp) ?_
    refine AllReadyH.cons rfl (fun K hK => ?_) AllReadyH.nil
    refine wp_store_blk 46 _ _ rfl rfl (w.heap.size + 2) rfl _ _ #[.string X2, .string b, .string X1, .slice ua (undoN un (a, b)).length uc] rfl (unhide HB1a) infoL rfl (by simp [Value.oneCell']) ?_
    intro Z hy hf9
    have hb9 := hf9.kept d2 (by omega)
    refine hK.out _ _ ⟨cells_of hb9 0 _ rfl, cells_of hb9 1 _ rfl, cells_of hb9 2 _ rfl, cells_of hb9 3 _ rfl⟩ (fun hHeld => ?_)
    have HY := hide hy
    have FY := hide hf9
    clear hK K hy hf9 hb9
    refine wpAnyH_take (i := 15) (v := ?_) rfl (by kernel_rfl) (by kernel_rfl) (by kernel_rfl) (fun _ _ _ h => h) (Or.inl ⟨by rfl, ?_⟩) (by assumption) ?_
    rotate_left
    · intro w' hSw; go_simp <;> with_reducible rfl
    simp only [Act.put, qA, qB, qC, qD, qE, qF]
    refine wpAnyH_done (by kernel_rfl) ?_ _
    go_wp2
    have v0 : Z.cell? ⟨w.heap.size + 2, 0, none⟩ = some (.string X2) := cells_of (unhide HY) 0 _ rfl
    have v1 : Z.cell? ⟨w.heap.size + 2, 1, none⟩ = some (.string b) := cells_of (unhide HY) 1 _ rfl
    have v2 : Z.cell? ⟨w.heap.size + 2, 2, none⟩ = some (.string X1) := cells_of (unhide HY) 2 _ rfl
    have v3 : Z.cell? ⟨w.heap.size + 2, 3, none⟩ = some (.slice ua (undoN un (a, b)).length uc) := cells_of (unhide HY) 3 _ rfl
    exact bodyPost_ret (v := .tuple #[.agg #[.string X2, .string b, .string X1, .slice ua (undoN un (a, b)).length uc], .int .i64 1]) (by simp [results, Tryd.results111, go_sem, v0, v1, v2, v3]) rfl (by rw [unhide HXO]; exact ⟨⟨_, rfl, ((unhide HO0).fr (unhide FY) (fun g hg e9 => by have := ((unhide HO0).lt g hg).1; omega)).mono (by omega)⟩, (unhide FY).ext (unhide HEa) (fun q hq => by omega)⟩)
end Go.Proofs.YtbieoijeilhadaaDoor
