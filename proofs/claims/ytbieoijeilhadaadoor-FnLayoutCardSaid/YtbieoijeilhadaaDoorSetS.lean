import Derived.Test.YtbieoijeilhadaaDoorGap
import Derived.Test.YtbieoijeilhadaaDoorEdK
import Derived.Test.YtbieoijeilhadaaDoorLineS2
import Derived.Deep.RegionHeld3
import Derived.Test.YtbieoijeilhadaaDoorLineS
import Derived.Test.YtbieoijeilhadaaDoorItemOk
namespace Go.Proofs.YtbieoijeilhadaaDoor
open Go.RowKit
set_option linter.unusedSimpArgs false in
set_option maxRecDepth 10000 in
set_option maxHeartbeats 8000000 in
theorem specEdit_15z (a b : ByteArray) (v : Value) (un : List (ByteArray × ByteArray)) (ra : Option Addr) (rn rc : Nat) (w : World) (hv : LnAt w v un) (ha : a.size ≤ 1048576) (hb : b.size ≤ 1048576) (hn : un.length ≤ 1048576) (hx : ∀ j, j < un.length → (lnT un j).size ≤ 1048576 ∧ (lnH un j).size ≤ 1048576) (hP : LineP a b { data := #[] } un.length (lnT un) (lnH un)) (HM : ∀ W u, Ext w W → LnAt W u un → Calls Tryd.prog 124 #[.agg #[.string a, .string b, .string { data := #[] }, u], .int .i64 15] W fun e w' => e = .returned (.tuple #[.agg #[.string a, .string b, .string { data := #[] }, u], .int .i64 (-1)]) ∧ Ext W w') (_hn5 : un.length ≤ 50) :
    Calls Tryd.prog 111 #[.agg #[.string a, .string b, .string { data := #[] }, v], .agg #[.int .i64 15, .slice ra rn rc]] w fun e w' => LnO w' w.heap.size (edYank a b { data := #[] } un) e ∧ Ext w w' := by
  have infoL : (Tryd.prog.info? 46).map (·.size) = some 4 := by kernel_rfl
  obtain ⟨ao, ca, rfl, _, _⟩ := id hv
  have H1 := hide (fun W (E : Ext w W) => specLineOk_all a b { data := #[] } ao un.length ca (lnT un) (lnH un) W (Row2At.ext hv E) ha hb (by decide) hx true (by simp [hP]))
  have HMv := hide (fun W (E : Ext w W) => HM W _ E (hv.ext E))
  have HC := hide (fun W (E : Ext w W) => l4Copy_any a b { data := #[] } (.slice ao un.length ca) un.length (lnT un) (lnH un) W (Row2At.ext hv E) (by omega))
  have HXO : Hid (edYank a b { data := #[] } un = ⟨a, b, { data := #[] }, un, 2⟩) := hide (by unfold edYank; rw [if_pos (show (baL { data := #[] }).length = 0 by rw [baL_len]; rfl)])
  clear hP hv hx HM
  obtain ⟨V, hV⟩ : ∃ V, V = ((w.alloc (.cells #[.string a, .string b, .string { data := #[] }, .slice ao un.length ca] 46)).alloc (.cells #[.int .i64 15, .slice ra rn rc] 67)).alloc (.cells #[.string { data := #[] }, .string { data := #[] }, .string { data := #[] }, .slice none 0 0] 46) := ⟨_, rfl⟩
  have E0 : Ext w V := by rw [hV]; exact (((Ext.refl w).alloc _).alloc _).alloc _
  have HB0 : Hid (V.heap[w.heap.size]? = some (.cells #[.string a, .string b, .string { data := #[] }, .slice ao un.length ca] 46 (0, 0))) := hide (by rw [hV]; exact (((Ext.refl _).alloc _).alloc _).kept (new_block w _))
  have HBK : Hid (V.heap[w.heap.size + 1]? = some (.cells #[.int .i64 15, .slice ra rn rc] 67 (0, 0))) := hide (by rw [hV]; have h := new_block (w.alloc (.cells #[.string a, .string b, .string { data := #[] }, .slice ao un.length ca] 46)) (.cells #[.int .i64 15, .slice ra rn rc] 67); rw [show (w.alloc (.cells #[.string a, .string b, .string { data := #[] }, .slice ao un.length ca] 46)).heap.size = w.heap.size + 1 by simp] at h; exact ((Ext.refl _).alloc _).kept h)
  have HB1 : Hid (V.heap[w.heap.size + 2]? = some (.cells #[.string { data := #[] }, .string { data := #[] }, .string { data := #[] }, .slice none 0 0] 46 (0, 0))) := hide (by rw [hV]; have h := new_block ((w.alloc (.cells #[.string a, .string b, .string { data := #[] }, .slice ao un.length ca] 46)).alloc (.cells #[.int .i64 15, .slice ra rn rc] 67)) (.cells #[.string { data := #[] }, .string { data := #[] }, .string { data := #[] }, .slice none 0 0] 46); rw [show ((w.alloc (.cells #[.string a, .string b, .string { data := #[] }, .slice ao un.length ca] 46)).alloc (.cells #[.int .i64 15, .slice ra rn rc] 67)).heap.size = w.heap.size + 2 by simp] at h; exact h)
  have sz0 : w.heap.size + 2 < V.heap.size := lt_of_block (unhide HB1)
  have HW := hide hV
  clear hV
  go_enter Tryd.func111, Tryd.ntmps111
  go_wp2_with fail
  rw [← unhide HW]
  clear HW
  refine ((unhide H1) _ E0).mono ?_
  rintro e w1 ⟨rfl, E1⟩
  have HE0 := hide (E0.trans E1)
  replace HB0 := hide (E1.kept (unhide HB0))
  replace HBK := hide (E1.kept (unhide HBK))
  replace HB1 := hide (E1.kept (unhide HB1))
  have z1 := E1.size
  clear E0 E1 H1
  have HMc := hide ((unhide HMv) w1 (unhide HE0))
  have k0 : w1.cell? ⟨w.heap.size + 1, 0, none⟩ = some (.int .i64 15) := cells_of (unhide HBK) 0 _ rfl
  clear HMv
  go_wp2_with (first
    | (refine wpList_load_blk rfl 46 _ rfl (w.heap.size) rfl _ _ _ _ (unhide HB0) Tryd.underlying46 rfl infoL ?_))
  refine (unhide HMc).mono ?_
  rintro e w5 ⟨rfl, E5⟩
  replace HB0 := hide (E5.kept (unhide HB0))
  replace HBK := hide (E5.kept (unhide HBK))
  replace HB1 := hide (E5.kept (unhide HB1))
  replace HE0 := hide ((unhide HE0).trans E5)
  have HN := hide (heap_alloc_new w5 (.cells #[.string { data := #[] }, .string { data := #[] }, .string { data := #[] }, .slice none 0 0] 46))
  have hz5 : w.heap.size + 2 < w5.heap.size := lt_of_block (unhide HB1)
  clear HMc E5 k0
  go_wp2_with (first
    | (refine wpList_store_blk rfl 46 _ _ rfl rfl (w5.heap.size) rfl _ _ _ rfl (unhide HN) infoL rfl (by simp [Value.oneCell']) ?_; intro U hB hU; have hU1 := hU.ext ((Ext.refl w5).alloc _) (fun q hq => by omega); replace HB0 := hide (hU1.kept (unhide HB0)); replace HBK := hide (hU1.kept (unhide HBK)); replace HB1 := hide (hU1.kept (unhide HB1)); replace HE0 := hide ((unhide HE0).trans hU1); have c0 : U.cell? ⟨w.heap.size, 0, none⟩ = some (.string a) := cells_of (unhide HB0) 0 _ rfl; have c1 : U.cell? ⟨w.heap.size, 1, none⟩ = some (.string b) := cells_of (unhide HB0) 1 _ rfl; have k0 : U.cell? ⟨w.heap.size + 1, 0, none⟩ = some (.int .i64 15) := cells_of (unhide HBK) 0 _ rfl; have k1 : U.cell? ⟨w.heap.size + 1, 1, none⟩ = some (.slice ra rn rc) := cells_of (unhide HBK) 1 _ rfl; have zU := hU1.size; clear hB hU hU1)
    | (refine wpList_load_blk rfl 46 _ rfl (w.heap.size) rfl _ _ _ _ (unhide HB0) Tryd.underlying46 rfl infoL ?_))
  have q0 : U.cell? ⟨w.heap.size, 0, none⟩ = some (.string a) ∧ U.cell? ⟨w.heap.size, 1, none⟩ = some (.string b) ∧ U.cell? ⟨w.heap.size, 2, none⟩ = some (.string { data := #[] }) ∧ U.cell? ⟨w.heap.size, 3, none⟩ = some (.slice ao un.length ca) := ⟨cells_of (unhide HB0) 0 _ rfl, cells_of (unhide HB0) 1 _ rfl, cells_of (unhide HB0) 2 _ rfl, cells_of (unhide HB0) 3 _ rfl⟩
  clear c0 c1 k0 k1
  go_wp2_with fail
  refine wp_region_held_drew (S := fun W => W.cell? ⟨w.heap.size, 0, none⟩ = some (.string a) ∧ W.cell? ⟨w.heap.size, 1, none⟩ = some (.string b) ∧ W.cell? ⟨w.heap.size, 2, none⟩ = some (.string { data := #[] }) ∧ W.cell? ⟨w.heap.size, 3, none⟩ = some (.slice ao un.length ca)) (by kernel_rfl) q0 (fun hHeld => ?_)
  refine wpAnyH_take (i := 0) (v := ?_) rfl (by kernel_rfl) (by kernel_rfl) (by kernel_rfl) (fun _ _ _ h => h) (Or.inl ⟨by rfl, ?_⟩) (by assumption) ?_
  rotate_left
  · intro w' hSw; go_simp <;> with_reducible rfl
  simp only [Act.put, qA, qB, qC, qD, qE, qF]
  refine wpAnyH_take (i := 1) (v := ?_) rfl (by kernel_rfl) (by kernel_rfl) (by kernel_rfl) (fun _ _ _ h => h) (Or.inl ⟨by rfl, ?_⟩) (by assumption) ?_
  rotate_left
  · intro w' hSw; go_simp <;> with_reducible rfl
  simp only [Act.put, qA, qB, qC, qD, qE, qF]
  refine wpAnyH_take (i := 2) (v := ?_) rfl (by kernel_rfl) (by kernel_rfl) (by kernel_rfl) (fun _ _ _ h => h) (Or.inl ⟨by rfl, ?_⟩) (by assumption) ?_
  rotate_left
  · intro w' hSw; go_simp <;> with_reducible rfl
  simp only [Act.put, qA, qB, qC, qD, qE, qF]
  refine wpAnyH_take (i := 3) (v := ?_) rfl (by kernel_rfl) (by kernel_rfl) (by kernel_rfl) (fun _ _ _ h => h) (Or.inl ⟨by rfl, ?_⟩) (by assumption) ?_
  rotate_left
  · intro w' hSw; go_simp <;> with_reducible rfl
  simp only [Act.put, qA, qB, qC, qD, qE, qF]
  refine wpAnyH_take (i := 4) (v := undef) rfl (by kernel_rfl) (by kernel_rfl) (by kernel_rfl) (fun _ _ _ h => h) (Or.inr ⟨by rfl, rfl⟩) (by assumption) ?_
  simp only [Act.put, qA, qB, qC, qD, qE, qF]
  refine wpAnyH_take (i := 5) (v := undef) rfl (by kernel_rfl) (by kernel_rfl) (by kernel_rfl) (fun _ _ _ h => h) (Or.inr ⟨by rfl, rfl⟩) (by assumption) ?_
  simp only [Act.put, qA, qB, qC, qD, qE, qF]
  refine wpAnyH_take (i := 6) (v := undef) rfl (by kernel_rfl) (by kernel_rfl) (by kernel_rfl) (fun _ _ _ h => h) (Or.inr ⟨by rfl, rfl⟩) (by assumption) ?_
  simp only [Act.put, qA, qB, qC, qD, qE, qF]
  refine wpAnyH_take (i := 7) (v := undef) rfl (by kernel_rfl) (by kernel_rfl) (by kernel_rfl) (fun _ _ _ h => h) (Or.inr ⟨by rfl, rfl⟩) (by assumption) ?_
  simp only [Act.put, qA, qB, qC, qD, qE, qF]
  refine wpAnyH_take (i := 8) (v := undef) rfl (by kernel_rfl) (by kernel_rfl) (by kernel_rfl) (fun _ _ _ h => h) (Or.inr ⟨by rfl, rfl⟩) (by assumption) ?_
  simp only [Act.put, qA, qB, qC, qD, qE, qF]
  refine wpAnyH_take (i := 9) (v := undef) rfl (by kernel_rfl) (by kernel_rfl) (by kernel_rfl) (fun _ _ _ h => h) (Or.inr ⟨by rfl, rfl⟩) (by assumption) ?_
  simp only [Act.put, qA, qB, qC, qD, qE, qF]
  refine wpAnyH_take (i := 10) (v := undef) rfl (by kernel_rfl) (by kernel_rfl) (by kernel_rfl) (fun _ _ _ h => h) (Or.inr ⟨by rfl, rfl⟩) (by assumption) ?_
  simp only [Act.put, qA, qB, qC, qD, qE, qF]
  refine wpAnyH_take (i := 11) (v := undef) rfl (by kernel_rfl) (by kernel_rfl) (by kernel_rfl) (fun _ _ _ h => h) (Or.inr ⟨by rfl, rfl⟩) (by assumption) ?_
  simp only [Act.put, qA, qB, qC, qD, qE, qF]
  refine wpAnyH_take (i := 12) (v := undef) rfl (by kernel_rfl) (by kernel_rfl) (by kernel_rfl) (fun _ _ _ h => h) (Or.inr ⟨by rfl, rfl⟩) (by assumption) ?_
  simp only [Act.put, qA, qB, qC, qD, qE, qF]
  refine wpAnyH_take (i := 13) (v := undef) rfl (by kernel_rfl) (by kernel_rfl) (by kernel_rfl) (fun _ _ _ h => h) (Or.inr ⟨by rfl, rfl⟩) (by assumption) ?_
  simp only [Act.put, qA, qB, qC, qD, qE, qF]
  refine wpAnyH_take (i := 14) (v := undef) rfl (by kernel_rfl) (by kernel_rfl) (by kernel_rfl) (fun _ _ _ h => h) (Or.inr ⟨by rfl, rfl⟩) (by assumption) ?_
  simp only [Act.put, qA, qB, qC, qD, qE, qF]
  refine wpAnyH_take (i := 15) (v := undef) rfl (by kernel_rfl) (by kernel_rfl) (by kernel_rfl) (fun _ _ _ h => h) (Or.inr ⟨by rfl, rfl⟩) (by assumption) ?_
  simp only [Act.put, qA, qB, qC, qD, qE, qF]
  refine wpAnyH_take (i := 16) (v := ?_) rfl (by kernel_rfl) (by kernel_rfl) (by kernel_rfl) (fun _ _ _ h => h) (Or.inl ⟨by rfl, ?_⟩) (by assumption) ?_
  rotate_left
  · intro w' hSw; go_simp <;> with_reducible rfl
  simp only [Act.put, qA, qB, qC, qD, qE, qF]
  refine wpAnyH_done (by kernel_rfl) ?_ _
  go_wp2_with (first | (refine wpList_load_blk rfl 46 _ rfl (w.heap.size) rfl _ _ _ _ (unhide HB0) Tryd.underlying46 rfl infoL ?_))
  refine ((unhide HC) _ ((unhide HE0).drew)).mono ?_
  rintro e w8 ⟨ua, uc, rfl, HO0, E8⟩
  have HO := (show Hid (Own2 w8 U.heap.size _ _ _ _ _) from HO0)
  replace HB1 := hide (E8.kept (unhide HB1))
  have HEa := hide (((unhide HE0).drew).trans E8)
  have s8 := E8.size
  clear E8 HO0
  go_wp2_with (first | (refine wpList_store_blk rfl 46 _ _ rfl rfl (w.heap.size + 2) rfl _ _ _ rfl (unhide HB1) infoL rfl (by simp [Value.oneCell']) ?_; intro Z hy hf9; have HY := hide hy; have FY := hide hf9; clear hy hf9))
  have v0 : Z.cell? ⟨w.heap.size + 2, 0, none⟩ = some (.string a) := cells_of (unhide HY) 0 _ rfl
  have v1 : Z.cell? ⟨w.heap.size + 2, 1, none⟩ = some (.string b) := cells_of (unhide HY) 1 _ rfl
  have v2 : Z.cell? ⟨w.heap.size + 2, 2, none⟩ = some (.string { data := #[] }) := cells_of (unhide HY) 2 _ rfl
  have v3 : Z.cell? ⟨w.heap.size + 2, 3, none⟩ = some (.slice ua un.length uc) := cells_of (unhide HY) 3 _ rfl
  exact bodyPost_ret (v := .tuple #[.agg #[.string a, .string b, .string { data := #[] }, .slice ua un.length uc], .int .i64 2]) (by simp [results, Tryd.results111, go_sem, v0, v1, v2, v3]) rfl (by rw [unhide HXO]; exact ⟨⟨_, rfl, ((unhide HO).fr (unhide FY) (fun g hg e9 => by have := ((unhide HO).lt g hg).1; omega)).mono (by omega)⟩, (unhide FY).ext (unhide HEa) (fun q hq => by omega)⟩)
set_option linter.unusedSimpArgs false in
set_option maxRecDepth 10000 in
set_option maxHeartbeats 8000000 in
theorem specEdit_15b (a b c : ByteArray) (v : Value) (un : List (ByteArray × ByteArray)) (ra : Option Addr) (rn rc : Nat) (w : World) (hv : LnAt w v un) (ha : a.size ≤ 1048576) (hb : b.size ≤ 1048576) (hc : c.size ≤ 1048576) (hn : un.length ≤ 1048576) (hx : ∀ j, j < un.length → (lnT un j).size ≤ 1048576 ∧ (lnH un j).size ≤ 1048576) (hP : LineP a b c un.length (lnT un) (lnH un)) (HM : ∀ W u, Ext w W → LnAt W u un → Calls Tryd.prog 124 #[.agg #[.string a, .string b, .string c, u], .int .i64 15] W fun e w' => e = .returned (.tuple #[.agg #[.string a, .string b, .string c, u], .int .i64 (-1)]) ∧ Ext W w') (_hn5 : un.length ≤ 50) (hk : ¬ (baL c).length = 0) (hl :  300 < (cleanL (baL a)).length + (cleanL (baL c)).length + (cleanL (baL b)).length) :
    Calls Tryd.prog 111 #[.agg #[.string a, .string b, .string c, v], .agg #[.int .i64 15, .slice ra rn rc]] w fun e w' => LnO w' w.heap.size (edYank a b c un) e ∧ Ext w w' := by
  have infoL : (Tryd.prog.info? 46).map (·.size) = some 4 := by kernel_rfl
  obtain ⟨ao, ca, rfl, _, _⟩ := id hv
  have H1 := hide (fun W (E : Ext w W) => specLineOk_all a b c ao un.length ca (lnT un) (lnH un) W (Row2At.ext hv E) ha hb hc hx true (by simp [hP]))
  have HMv := hide (fun W (E : Ext w W) => HM W _ E (hv.ext E))
  have HC := hide (fun W (E : Ext w W) => l4Copy_any a b c (.slice ao un.length ca) un.length (lnT un) (lnH un) W (Row2At.ext hv E) (by omega))
  have HXO : Hid (edYank a b c un = ⟨a, b, c, un, 2⟩) := hide (by unfold edYank; rw [if_neg hk, if_pos hl])
  have hcA := hide (fun W => l4Count_any (baL a) (baL_bytes a) W (by rw [baL_len]; omega))
  have hcB := hide (fun W => l4Count_any (baL b) (baL_bytes b) W (by rw [baL_len]; omega))
  have hcC := hide (fun W => l4Count_any (baL c) (baL_bytes c) W (by rw [baL_len]; omega))
  rw [toBA_baL] at hcA hcB hcC
  have lA := cleanL_len (baL a)
  have lB := cleanL_len (baL b)
  have lC := cleanL_len (baL c)
  rw [baL_len] at lA lB lC
  obtain ⟨nA, hnA⟩ : ∃ n, (cleanL (baL a)).length = n := ⟨_, rfl⟩
  obtain ⟨nB, hnB⟩ : ∃ n, (cleanL (baL b)).length = n := ⟨_, rfl⟩
  obtain ⟨nC, hnC⟩ : ∃ n, (cleanL (baL c)).length = n := ⟨_, rfl⟩
  rw [hnA, hnB, hnC] at hl
  rw [hnA] at hcA lA
  rw [hnB] at hcB lB
  rw [hnC] at hcC lC
  have hne0 : c.toList.isEmpty = false := by
    have h9 := toBA_some (bs := baL c) (fun e => hk (by rw [e]; rfl))
    rw [toBA_baL] at h9
    exact h9
  have hne1 : ¬ c.toList = [] := fun e => by rw [e] at hne0; simp at hne0
  have hw1 : IntKind.i64.wrap ((nA : Int) + (nC : Int)) = (nA : Int) + (nC : Int) := by rw [IntKind.wrap_i64]; omega
  have hw2 : IntKind.i64.wrap ((nA : Int) + (nC : Int) + (nB : Int)) = (nA : Int) + (nC : Int) + (nB : Int) := by rw [IntKind.wrap_i64]; omega
  clear hnA hnB hnC hk
  have hlI : (300 : Int) < (nA : Int) + (nC : Int) + (nB : Int) := by omega
  clear hP hv hx HM
  obtain ⟨V, hV⟩ : ∃ V, V = ((w.alloc (.cells #[.string a, .string b, .string c, .slice ao un.length ca] 46)).alloc (.cells #[.int .i64 15, .slice ra rn rc] 67)).alloc (.cells #[.string { data := #[] }, .string { data := #[] }, .string { data := #[] }, .slice none 0 0] 46) := ⟨_, rfl⟩
  have E0 : Ext w V := by rw [hV]; exact (((Ext.refl w).alloc _).alloc _).alloc _
  have HB0 : Hid (V.heap[w.heap.size]? = some (.cells #[.string a, .string b, .string c, .slice ao un.length ca] 46 (0, 0))) := hide (by rw [hV]; exact (((Ext.refl _).alloc _).alloc _).kept (new_block w _))
  have HBK : Hid (V.heap[w.heap.size + 1]? = some (.cells #[.int .i64 15, .slice ra rn rc] 67 (0, 0))) := hide (by rw [hV]; have h := new_block (w.alloc (.cells #[.string a, .string b, .string c, .slice ao un.length ca] 46)) (.cells #[.int .i64 15, .slice ra rn rc] 67); rw [show (w.alloc (.cells #[.string a, .string b, .string c, .slice ao un.length ca] 46)).heap.size = w.heap.size + 1 by simp] at h; exact ((Ext.refl _).alloc _).kept h)
  have HB1 : Hid (V.heap[w.heap.size + 2]? = some (.cells #[.string { data := #[] }, .string { data := #[] }, .string { data := #[] }, .slice none 0 0] 46 (0, 0))) := hide (by rw [hV]; have h := new_block ((w.alloc (.cells #[.string a, .string b, .string c, .slice ao un.length ca] 46)).alloc (.cells #[.int .i64 15, .slice ra rn rc] 67)) (.cells #[.string { data := #[] }, .string { data := #[] }, .string { data := #[] }, .slice none 0 0] 46); rw [show ((w.alloc (.cells #[.string a, .string b, .string c, .slice ao un.length ca] 46)).alloc (.cells #[.int .i64 15, .slice ra rn rc] 67)).heap.size = w.heap.size + 2 by simp] at h; exact h)
  have sz0 : w.heap.size + 2 < V.heap.size := lt_of_block (unhide HB1)
  have HW := hide hV
  clear hV
  go_enter Tryd.func111, Tryd.ntmps111
  go_wp2_with fail
  rw [← unhide HW]
  clear HW
  refine ((unhide H1) _ E0).mono ?_
  rintro e w1 ⟨rfl, E1⟩
  have HE0 := hide (E0.trans E1)
  replace HB0 := hide (E1.kept (unhide HB0))
  replace HBK := hide (E1.kept (unhide HBK))
  replace HB1 := hide (E1.kept (unhide HB1))
  have z1 := E1.size
  clear E0 E1 H1
  have HMc := hide ((unhide HMv) w1 (unhide HE0))
  have k0 : w1.cell? ⟨w.heap.size + 1, 0, none⟩ = some (.int .i64 15) := cells_of (unhide HBK) 0 _ rfl
  clear HMv
  go_wp2_with (first
    | (refine wpList_load_blk rfl 46 _ rfl (w.heap.size) rfl _ _ _ _ (unhide HB0) Tryd.underlying46 rfl infoL ?_))
  refine (unhide HMc).mono ?_
  rintro e w5 ⟨rfl, E5⟩
  replace HB0 := hide (E5.kept (unhide HB0))
  replace HBK := hide (E5.kept (unhide HBK))
  replace HB1 := hide (E5.kept (unhide HB1))
  replace HE0 := hide ((unhide HE0).trans E5)
  have HN := hide (heap_alloc_new w5 (.cells #[.string { data := #[] }, .string { data := #[] }, .string { data := #[] }, .slice none 0 0] 46))
  have hz5 : w.heap.size + 2 < w5.heap.size := lt_of_block (unhide HB1)
  clear HMc E5 k0
  go_wp2_with (first
    | (refine wpList_store_blk rfl 46 _ _ rfl rfl (w5.heap.size) rfl _ _ _ rfl (unhide HN) infoL rfl (by simp [Value.oneCell']) ?_; intro U hB hU; have hU1 := hU.ext ((Ext.refl w5).alloc _) (fun q hq => by omega); replace HB0 := hide (hU1.kept (unhide HB0)); replace HBK := hide (hU1.kept (unhide HBK)); replace HB1 := hide (hU1.kept (unhide HB1)); replace HE0 := hide ((unhide HE0).trans hU1); have c0 : U.cell? ⟨w.heap.size, 0, none⟩ = some (.string a) := cells_of (unhide HB0) 0 _ rfl; have c1 : U.cell? ⟨w.heap.size, 1, none⟩ = some (.string b) := cells_of (unhide HB0) 1 _ rfl; have k0 : U.cell? ⟨w.heap.size + 1, 0, none⟩ = some (.int .i64 15) := cells_of (unhide HBK) 0 _ rfl; have k1 : U.cell? ⟨w.heap.size + 1, 1, none⟩ = some (.slice ra rn rc) := cells_of (unhide HBK) 1 _ rfl; have zU := hU1.size; clear hB hU hU1)
    | (refine wpList_load_blk rfl 46 _ rfl (w.heap.size) rfl _ _ _ _ (unhide HB0) Tryd.underlying46 rfl infoL ?_))
  have q0 : U.cell? ⟨w.heap.size, 0, none⟩ = some (.string a) ∧ U.cell? ⟨w.heap.size, 1, none⟩ = some (.string b) ∧ U.cell? ⟨w.heap.size, 2, none⟩ = some (.string c) ∧ U.cell? ⟨w.heap.size, 3, none⟩ = some (.slice ao un.length ca) := ⟨cells_of (unhide HB0) 0 _ rfl, cells_of (unhide HB0) 1 _ rfl, cells_of (unhide HB0) 2 _ rfl, cells_of (unhide HB0) 3 _ rfl⟩
  clear c0 c1 k0 k1
  go_wp2_with fail
  refine wp_region_held_drew (S := fun W => W.cell? ⟨w.heap.size, 0, none⟩ = some (.string a) ∧ W.cell? ⟨w.heap.size, 1, none⟩ = some (.string b) ∧ W.cell? ⟨w.heap.size, 2, none⟩ = some (.string c) ∧ W.cell? ⟨w.heap.size, 3, none⟩ = some (.slice ao un.length ca)) (by kernel_rfl) q0 (fun hHeld => ?_)
  refine wpAnyH_take (i := 0) (v := ?_) rfl (by kernel_rfl) (by kernel_rfl) (by kernel_rfl) (fun _ _ _ h => h) (Or.inl ⟨by rfl, ?_⟩) (by assumption) ?_
  rotate_left
  · intro w' hSw; go_simp <;> with_reducible rfl
  simp only [Act.put, qA, qB, qC, qD, qE, qF]
  refine wpAnyH_take (i := 1) (v := ?_) rfl (by kernel_rfl) (by kernel_rfl) (by kernel_rfl) (fun _ _ _ h => h) (Or.inl ⟨by rfl, ?_⟩) (by assumption) ?_
  rotate_left
  · intro w' hSw; go_simp <;> with_reducible rfl
  simp only [Act.put, qA, qB, qC, qD, qE, qF]
  refine wpAnyH_take (i := 2) (v := ?_) rfl (by kernel_rfl) (by kernel_rfl) (by kernel_rfl) (fun _ _ _ h => h) (Or.inl ⟨by rfl, ?_⟩) (by assumption) ?_
  rotate_left
  · intro w' hSw; go_simp <;> with_reducible rfl
  simp only [Act.put, qA, qB, qC, qD, qE, qF]
  refine wpAnyH_take (i := 3) (v := ?_) rfl (by kernel_rfl) (by kernel_rfl) (by kernel_rfl) (fun _ _ _ h => h) (Or.inl ⟨by rfl, ?_⟩) (by assumption) ?_
  rotate_left
  · intro w' hSw; go_simp <;> with_reducible rfl
  simp only [Act.put, qA, qB, qC, qD, qE, qF]
  refine wpAnyH_take (i := 4) (v := ?_) rfl (by kernel_rfl) (by kernel_rfl) (by kernel_rfl) (fun _ _ _ h => h) (Or.inl ⟨by rfl, ?_⟩) (by assumption) ?_
  rotate_left
  · intro w' hSw; go_simp <;> with_reducible rfl
  simp only [Act.put, qA, qB, qC, qD, qE, qF]
  refine wpAnyH_take (i := 5) (v := ?_) rfl (by kernel_rfl) (by kernel_rfl) (by kernel_rfl) (fun _ _ _ h => h) (Or.inl ⟨by rfl, ?_⟩) (by assumption) ?_
  rotate_left
  · intro w' hSw; go_simp <;> with_reducible rfl
  simp only [Act.put, qA, qB, qC, qD, qE, qF]
  refine wpAnyH_take (i := 7) (v := ?_) rfl (by kernel_rfl) (by kernel_rfl) (by kernel_rfl) (fun _ _ _ h => h) (Or.inl ⟨by rfl, ?_⟩) (by assumption) ?_
  rotate_left
  · intro w' hSw; go_simp <;> with_reducible rfl
  simp only [Act.put, qA, qB, qC, qD, qE, qF]
  refine wpAnyH_take (i := 8) (v := ?_) rfl (by kernel_rfl) (by kernel_rfl) (by kernel_rfl) (fun _ _ _ h => h) (Or.inl ⟨by rfl, ?_⟩) (by assumption) ?_
  rotate_left
  · intro w' hSw; go_simp <;> with_reducible rfl
  simp only [Act.put, qA, qB, qC, qD, qE, qF]
  refine wpAnyH_take (i := 11) (v := ?_) rfl (by kernel_rfl) (by kernel_rfl) (by kernel_rfl) (fun _ _ _ h => h) (Or.inl ⟨by rfl, ?_⟩) (by assumption) ?_
  rotate_left
  · intro w' hSw; go_simp <;> with_reducible rfl
  simp only [Act.put, qA, qB, qC, qD, qE, qF]
  refine wpAnyH_take (i := 12) (v := ?_) rfl (by kernel_rfl) (by kernel_rfl) (by kernel_rfl) (fun _ _ _ h => h) (Or.inl ⟨by rfl, ?_⟩) (by assumption) ?_
  rotate_left
  · intro w' hSw; go_simp <;> with_reducible rfl
  simp only [Act.put, qA, qB, qC, qD, qE, qF]
  refine wpAnyH_ready (rs := [6]) (by kernel_rfl) (by simp) ?_
  refine AllReadyH.cons rfl (fun K hK => ?_) AllReadyH.nil
  go_simp
  go_wp2_with (go_at_call 129; refine ((unhide hcA) _).mono ?_; rintro e x6 ⟨rfl, E9⟩; have F6 : Ext U x6 := (by first | exact E9 | exact (Ext.refl _).drew.trans E9); have d6 := F6.kept (unhide HB0); clear E9)
  refine hK.out _ _ ⟨cells_of d6 0 _ rfl, cells_of d6 1 _ rfl, cells_of d6 2 _ rfl, cells_of d6 3 _ rfl⟩ (fun hHeld => ?_)
  clear hK K
  refine wpAnyH_ready (rs := [9]) (by kernel_rfl) (by simp) ?_
  refine AllReadyH.cons rfl (fun K hK => ?_) AllReadyH.nil
  go_simp
  go_wp2_with (go_at_call 129; refine ((unhide hcC) _).mono ?_; rintro e x7 ⟨rfl, E9⟩; have F7 : Ext U x7 := F6.trans (by first | exact E9 | exact (Ext.refl _).drew.trans E9); have d7 := F7.kept (unhide HB0); clear E9)
  refine hK.out _ _ ⟨cells_of d7 0 _ rfl, cells_of d7 1 _ rfl, cells_of d7 2 _ rfl, cells_of d7 3 _ rfl⟩ (fun hHeld => ?_)
  clear hK K
  refine wpAnyH_take (i := 10) (v := ?_) rfl (by kernel_rfl) (by kernel_rfl) (by kernel_rfl) (fun _ _ _ h => h) (Or.inl ⟨by rfl, ?_⟩) (by assumption) ?_
  rotate_left
  · intro w' hSw; go_simp <;> with_reducible rfl
  simp only [Act.put, qA, qB, qC, qD, qE, qF]
  refine wpAnyH_ready (rs := [13]) (by kernel_rfl) (by simp) ?_
  refine AllReadyH.cons rfl (fun K hK => ?_) AllReadyH.nil
  go_simp
  go_wp2_with (go_at_call 129; refine ((unhide hcB) _).mono ?_; rintro e x8 ⟨rfl, E9⟩; have F8 : Ext U x8 := F7.trans (by first | exact E9 | exact (Ext.refl _).drew.trans E9); have d8 := F8.kept (unhide HB0); clear E9)
  refine hK.out _ _ ⟨cells_of d8 0 _ rfl, cells_of d8 1 _ rfl, cells_of d8 2 _ rfl, cells_of d8 3 _ rfl⟩ (fun hHeld => ?_)
  clear hK K
  refine wpAnyH_take (i := 14) (v := ?_) rfl (by kernel_rfl) (by kernel_rfl) (by kernel_rfl) (fun _ _ _ h => h) (Or.inl ⟨by rfl, ?_⟩) (by assumption) ?_
  rotate_left
  · intro w' hSw; go_simp <;> with_reducible rfl
  simp only [Act.put, qA, qB, qC, qD, qE, qF]
  refine wpAnyH_take (i := 15) (v := ?_) rfl (by kernel_rfl) (by kernel_rfl) (by kernel_rfl) (fun _ _ _ h => h) (Or.inl ⟨by rfl, ?_⟩) (by assumption) ?_
  rotate_left
  · intro w' hSw; go_simp <;> with_reducible rfl
  simp only [Act.put, qA, qB, qC, qD, qE, qF]
  refine wpAnyH_take (i := 16) (v := ?_) rfl (by kernel_rfl) (by kernel_rfl) (by kernel_rfl) (fun _ _ _ h => h) (Or.inl ⟨by rfl, ?_⟩) (by assumption) ?_
  rotate_left
  · intro w' hSw; go_simp <;> with_reducible rfl
  simp only [Act.put, qA, qB, qC, qD, qE, qF]
  refine wpAnyH_done (by kernel_rfl) ?_ _
  replace HB0 := hide d8
  replace HB1 := hide (F8.kept (unhide HB1))
  have s7 := F8.size
  go_wp2_with (first | (refine wpList_load_blk rfl 46 _ rfl (w.heap.size) rfl _ _ _ _ (unhide HB0) Tryd.underlying46 rfl infoL ?_))
  refine ((unhide HC) _ ((unhide HE0).trans F8)).mono ?_
  rintro e w8 ⟨ua, uc, rfl, HO0, E8⟩
  have HO := (show Hid (Own2 w8 x8.heap.size _ _ _ _ _) from HO0)
  replace HB1 := hide (E8.kept (unhide HB1))
  have HEa := hide (((unhide HE0).trans F8).trans E8)
  have s8 := E8.size
  clear E8 HO0
  go_wp2_with (first | (refine wpList_store_blk rfl 46 _ _ rfl rfl (w.heap.size + 2) rfl _ _ _ rfl (unhide HB1) infoL rfl (by simp [Value.oneCell']) ?_; intro Z hy hf9; have HY := hide hy; have FY := hide hf9; clear hy hf9))
  have v0 : Z.cell? ⟨w.heap.size + 2, 0, none⟩ = some (.string a) := cells_of (unhide HY) 0 _ rfl
  have v1 : Z.cell? ⟨w.heap.size + 2, 1, none⟩ = some (.string b) := cells_of (unhide HY) 1 _ rfl
  have v2 : Z.cell? ⟨w.heap.size + 2, 2, none⟩ = some (.string c) := cells_of (unhide HY) 2 _ rfl
  have v3 : Z.cell? ⟨w.heap.size + 2, 3, none⟩ = some (.slice ua un.length uc) := cells_of (unhide HY) 3 _ rfl
  exact bodyPost_ret (v := .tuple #[.agg #[.string a, .string b, .string c, .slice ua un.length uc], .int .i64 2]) (by simp [results, Tryd.results111, go_sem, v0, v1, v2, v3]) rfl (by rw [unhide HXO]; exact ⟨⟨_, rfl, ((unhide HO).fr (unhide FY) (fun g hg e9 => by have := ((unhide HO).lt g hg).1; omega)).mono (by omega)⟩, (unhide FY).ext (unhide HEa) (fun q hq => by omega)⟩)
set_option linter.unusedSimpArgs false in
set_option maxRecDepth 10000 in
set_option maxHeartbeats 8000000 in
theorem specEdit_15y (a b c : ByteArray) (v : Value) (un : List (ByteArray × ByteArray)) (ra : Option Addr) (rn rc : Nat) (w : World) (hv : LnAt w v un) (ha : a.size ≤ 1048576) (hb : b.size ≤ 1048576) (hc : c.size ≤ 1048576) (_hn : un.length ≤ 1048576) (hx : ∀ j, j < un.length → (lnT un j).size ≤ 1048576 ∧ (lnH un j).size ≤ 1048576) (hP : LineP a b c un.length (lnT un) (lnH un)) (HM : ∀ W u, Ext w W → LnAt W u un → Calls Tryd.prog 124 #[.agg #[.string a, .string b, .string c, u], .int .i64 15] W fun e w' => e = .returned (.tuple #[.agg #[.string a, .string b, .string c, u], .int .i64 (-1)]) ∧ Ext W w') (hn5 : un.length ≤ 50) (hk : ¬ (baL c).length = 0) (hl : ¬ 300 < (cleanL (baL a)).length + (cleanL (baL c)).length + (cleanL (baL b)).length) :
    Calls Tryd.prog 111 #[.agg #[.string a, .string b, .string c, v], .agg #[.int .i64 15, .slice ra rn rc]] w fun e w' => LnO w' w.heap.size (edYank a b c un) e ∧ Ext w w' := by
  have infoL : (Tryd.prog.info? 46).map (·.size) = some 4 := by kernel_rfl
  obtain ⟨ao, ca, rfl, _, _⟩ := id hv
  have H1 := hide (fun W (E : Ext w W) => specLineOk_all a b c ao un.length ca (lnT un) (lnH un) W (Row2At.ext hv E) ha hb hc hx true (by simp [hP]))
  have HMv := hide (fun W (E : Ext w W) => HM W _ E (hv.ext E))
  have HS := hide (fun l r W (E : Ext w W) => l4Set_any a b c l r (.slice ao un.length ca) un.length (lnT un) (lnH un) W (Row2At.ext hv E) hn5)
  rw [unL_ln] at HS
  have HXO : Hid (edYank a b c un = ⟨a ++ c, b, c, undoN un (a, b), 1⟩) := hide (by
    unfold edYank
    rw [if_neg hk, if_neg hl, ← toBA_app, toBA_baL, toBA_baL]
    rfl)
  have szs : ¬ 9223372036854775807 < a.size + c.size := by omega
  have hcA := hide (fun W => l4Count_any (baL a) (baL_bytes a) W (by rw [baL_len]; omega))
  have hcB := hide (fun W => l4Count_any (baL b) (baL_bytes b) W (by rw [baL_len]; omega))
  have hcC := hide (fun W => l4Count_any (baL c) (baL_bytes c) W (by rw [baL_len]; omega))
  rw [toBA_baL] at hcA hcB hcC
  have lA := cleanL_len (baL a)
  have lB := cleanL_len (baL b)
  have lC := cleanL_len (baL c)
  rw [baL_len] at lA lB lC
  obtain ⟨nA, hnA⟩ : ∃ n, (cleanL (baL a)).length = n := ⟨_, rfl⟩
  obtain ⟨nB, hnB⟩ : ∃ n, (cleanL (baL b)).length = n := ⟨_, rfl⟩
  obtain ⟨nC, hnC⟩ : ∃ n, (cleanL (baL c)).length = n := ⟨_, rfl⟩
  rw [hnA, hnB, hnC] at hl
  rw [hnA] at hcA lA
  rw [hnB] at hcB lB
  rw [hnC] at hcC lC
  have hne0 : c.toList.isEmpty = false := by
    have h9 := toBA_some (bs := baL c) (fun e => hk (by rw [e]; rfl))
    rw [toBA_baL] at h9
    exact h9
  have hne1 : ¬ c.toList = [] := fun e => by rw [e] at hne0; simp at hne0
  have hw1 : IntKind.i64.wrap ((nA : Int) + (nC : Int)) = (nA : Int) + (nC : Int) := by rw [IntKind.wrap_i64]; omega
  have hw2 : IntKind.i64.wrap ((nA : Int) + (nC : Int) + (nB : Int)) = (nA : Int) + (nC : Int) + (nB : Int) := by rw [IntKind.wrap_i64]; omega
  clear hnA hnB hnC hk
  have hlI : ¬ (300 : Int) < (nA : Int) + (nC : Int) + (nB : Int) := by omega
  clear hP hv hx HM
  obtain ⟨V, hV⟩ : ∃ V, V = ((w.alloc (.cells #[.string a, .string b, .string c, .slice ao un.length ca] 46)).alloc (.cells #[.int .i64 15, .slice ra rn rc] 67)).alloc (.cells #[.string { data := #[] }, .string { data := #[] }, .string { data := #[] }, .slice none 0 0] 46) := ⟨_, rfl⟩
  have E0 : Ext w V := by rw [hV]; exact (((Ext.refl w).alloc _).alloc _).alloc _
  have HB0 : Hid (V.heap[w.heap.size]? = some (.cells #[.string a, .string b, .string c, .slice ao un.length ca] 46 (0, 0))) := hide (by rw [hV]; exact (((Ext.refl _).alloc _).alloc _).kept (new_block w _))
  have HBK : Hid (V.heap[w.heap.size + 1]? = some (.cells #[.int .i64 15, .slice ra rn rc] 67 (0, 0))) := hide (by rw [hV]; have h := new_block (w.alloc (.cells #[.string a, .string b, .string c, .slice ao un.length ca] 46)) (.cells #[.int .i64 15, .slice ra rn rc] 67); rw [show (w.alloc (.cells #[.string a, .string b, .string c, .slice ao un.length ca] 46)).heap.size = w.heap.size + 1 by simp] at h; exact ((Ext.refl _).alloc _).kept h)
  have HB1 : Hid (V.heap[w.heap.size + 2]? = some (.cells #[.string { data := #[] }, .string { data := #[] }, .string { data := #[] }, .slice none 0 0] 46 (0, 0))) := hide (by rw [hV]; have h := new_block ((w.alloc (.cells #[.string a, .string b, .string c, .slice ao un.length ca] 46)).alloc (.cells #[.int .i64 15, .slice ra rn rc] 67)) (.cells #[.string { data := #[] }, .string { data := #[] }, .string { data := #[] }, .slice none 0 0] 46); rw [show ((w.alloc (.cells #[.string a, .string b, .string c, .slice ao un.length ca] 46)).alloc (.cells #[.int .i64 15, .slice ra rn rc] 67)).heap.size = w.heap.size + 2 by simp] at h; exact h)
  have sz0 : w.heap.size + 2 < V.heap.size := lt_of_block (unhide HB1)
  have HW := hide hV
  clear hV
  go_enter Tryd.func111, Tryd.ntmps111
  go_wp2_with fail
  rw [← unhide HW]
  clear HW
  refine ((unhide H1) _ E0).mono ?_
  rintro e w1 ⟨rfl, E1⟩
  have HE0 := hide (E0.trans E1)
  replace HB0 := hide (E1.kept (unhide HB0))
  replace HBK := hide (E1.kept (unhide HBK))
  replace HB1 := hide (E1.kept (unhide HB1))
  have z1 := E1.size
  clear E0 E1 H1
  have HMc := hide ((unhide HMv) w1 (unhide HE0))
  have k0 : w1.cell? ⟨w.heap.size + 1, 0, none⟩ = some (.int .i64 15) := cells_of (unhide HBK) 0 _ rfl
  clear HMv
  go_wp2_with (first
    | (refine wpList_load_blk rfl 46 _ rfl (w.heap.size) rfl _ _ _ _ (unhide HB0) Tryd.underlying46 rfl infoL ?_))
  refine (unhide HMc).mono ?_
  rintro e w5 ⟨rfl, E5⟩
  replace HB0 := hide (E5.kept (unhide HB0))
  replace HBK := hide (E5.kept (unhide HBK))
  replace HB1 := hide (E5.kept (unhide HB1))
  replace HE0 := hide ((unhide HE0).trans E5)
  have HN := hide (heap_alloc_new w5 (.cells #[.string { data := #[] }, .string { data := #[] }, .string { data := #[] }, .slice none 0 0] 46))
  have hz5 : w.heap.size + 2 < w5.heap.size := lt_of_block (unhide HB1)
  clear HMc E5 k0
  go_wp2_with (first
    | (refine wpList_store_blk rfl 46 _ _ rfl rfl (w5.heap.size) rfl _ _ _ rfl (unhide HN) infoL rfl (by simp [Value.oneCell']) ?_; intro U hB hU; have hU1 := hU.ext ((Ext.refl w5).alloc _) (fun q hq => by omega); replace HB0 := hide (hU1.kept (unhide HB0)); replace HBK := hide (hU1.kept (unhide HBK)); replace HB1 := hide (hU1.kept (unhide HB1)); replace HE0 := hide ((unhide HE0).trans hU1); have c0 : U.cell? ⟨w.heap.size, 0, none⟩ = some (.string a) := cells_of (unhide HB0) 0 _ rfl; have c1 : U.cell? ⟨w.heap.size, 1, none⟩ = some (.string b) := cells_of (unhide HB0) 1 _ rfl; have k0 : U.cell? ⟨w.heap.size + 1, 0, none⟩ = some (.int .i64 15) := cells_of (unhide HBK) 0 _ rfl; have k1 : U.cell? ⟨w.heap.size + 1, 1, none⟩ = some (.slice ra rn rc) := cells_of (unhide HBK) 1 _ rfl; have zU := hU1.size; clear hB hU hU1)
    | (refine wpList_load_blk rfl 46 _ rfl (w.heap.size) rfl _ _ _ _ (unhide HB0) Tryd.underlying46 rfl infoL ?_))
  have q0 : U.cell? ⟨w.heap.size, 0, none⟩ = some (.string a) ∧ U.cell? ⟨w.heap.size, 1, none⟩ = some (.string b) ∧ U.cell? ⟨w.heap.size, 2, none⟩ = some (.string c) ∧ U.cell? ⟨w.heap.size, 3, none⟩ = some (.slice ao un.length ca) := ⟨cells_of (unhide HB0) 0 _ rfl, cells_of (unhide HB0) 1 _ rfl, cells_of (unhide HB0) 2 _ rfl, cells_of (unhide HB0) 3 _ rfl⟩
  clear c0 c1 k0 k1
  go_wp2_with fail
  refine wp_region_held_drew (S := fun W => W.cell? ⟨w.heap.size, 0, none⟩ = some (.string a) ∧ W.cell? ⟨w.heap.size, 1, none⟩ = some (.string b) ∧ W.cell? ⟨w.heap.size, 2, none⟩ = some (.string c) ∧ W.cell? ⟨w.heap.size, 3, none⟩ = some (.slice ao un.length ca)) (by kernel_rfl) q0 (fun hHeld => ?_)
  refine wpAnyH_take (i := 0) (v := ?_) rfl (by kernel_rfl) (by kernel_rfl) (by kernel_rfl) (fun _ _ _ h => h) (Or.inl ⟨by rfl, ?_⟩) (by assumption) ?_
  rotate_left
  · intro w' hSw; go_simp <;> with_reducible rfl
  simp only [Act.put, qA, qB, qC, qD, qE, qF]
  refine wpAnyH_take (i := 1) (v := ?_) rfl (by kernel_rfl) (by kernel_rfl) (by kernel_rfl) (fun _ _ _ h => h) (Or.inl ⟨by rfl, ?_⟩) (by assumption) ?_
  rotate_left
  · intro w' hSw; go_simp <;> with_reducible rfl
  simp only [Act.put, qA, qB, qC, qD, qE, qF]
  refine wpAnyH_take (i := 2) (v := ?_) rfl (by kernel_rfl) (by kernel_rfl) (by kernel_rfl) (fun _ _ _ h => h) (Or.inl ⟨by rfl, ?_⟩) (by assumption) ?_
  rotate_left
  · intro w' hSw; go_simp <;> with_reducible rfl
  simp only [Act.put, qA, qB, qC, qD, qE, qF]
  refine wpAnyH_take (i := 3) (v := ?_) rfl (by kernel_rfl) (by kernel_rfl) (by kernel_rfl) (fun _ _ _ h => h) (Or.inl ⟨by rfl, ?_⟩) (by assumption) ?_
  rotate_left
  · intro w' hSw; go_simp <;> with_reducible rfl
  simp only [Act.put, qA, qB, qC, qD, qE, qF]
  refine wpAnyH_take (i := 4) (v := ?_) rfl (by kernel_rfl) (by kernel_rfl) (by kernel_rfl) (fun _ _ _ h => h) (Or.inl ⟨by rfl, ?_⟩) (by assumption) ?_
  rotate_left
  · intro w' hSw; go_simp <;> with_reducible rfl
  simp only [Act.put, qA, qB, qC, qD, qE, qF]
  refine wpAnyH_take (i := 5) (v := ?_) rfl (by kernel_rfl) (by kernel_rfl) (by kernel_rfl) (fun _ _ _ h => h) (Or.inl ⟨by rfl, ?_⟩) (by assumption) ?_
  rotate_left
  · intro w' hSw; go_simp <;> with_reducible rfl
  simp only [Act.put, qA, qB, qC, qD, qE, qF]
  refine wpAnyH_take (i := 7) (v := ?_) rfl (by kernel_rfl) (by kernel_rfl) (by kernel_rfl) (fun _ _ _ h => h) (Or.inl ⟨by rfl, ?_⟩) (by assumption) ?_
  rotate_left
  · intro w' hSw; go_simp <;> with_reducible rfl
  simp only [Act.put, qA, qB, qC, qD, qE, qF]
  refine wpAnyH_take (i := 8) (v := ?_) rfl (by kernel_rfl) (by kernel_rfl) (by kernel_rfl) (fun _ _ _ h => h) (Or.inl ⟨by rfl, ?_⟩) (by assumption) ?_
  rotate_left
  · intro w' hSw; go_simp <;> with_reducible rfl
  simp only [Act.put, qA, qB, qC, qD, qE, qF]
  refine wpAnyH_take (i := 11) (v := ?_) rfl (by kernel_rfl) (by kernel_rfl) (by kernel_rfl) (fun _ _ _ h => h) (Or.inl ⟨by rfl, ?_⟩) (by assumption) ?_
  rotate_left
  · intro w' hSw; go_simp <;> with_reducible rfl
  simp only [Act.put, qA, qB, qC, qD, qE, qF]
  refine wpAnyH_take (i := 12) (v := ?_) rfl (by kernel_rfl) (by kernel_rfl) (by kernel_rfl) (fun _ _ _ h => h) (Or.inl ⟨by rfl, ?_⟩) (by assumption) ?_
  rotate_left
  · intro w' hSw; go_simp <;> with_reducible rfl
  simp only [Act.put, qA, qB, qC, qD, qE, qF]
  refine wpAnyH_ready (rs := [6]) (by kernel_rfl) (by simp) ?_
  refine AllReadyH.cons rfl (fun K hK => ?_) AllReadyH.nil
  go_simp
  go_wp2_with (go_at_call 129; refine ((unhide hcA) _).mono ?_; rintro e x6 ⟨rfl, E9⟩; have F6 : Ext U x6 := (by first | exact E9 | exact (Ext.refl _).drew.trans E9); have d6 := F6.kept (unhide HB0); clear E9)
  refine hK.out _ _ ⟨cells_of d6 0 _ rfl, cells_of d6 1 _ rfl, cells_of d6 2 _ rfl, cells_of d6 3 _ rfl⟩ (fun hHeld => ?_)
  clear hK K
  refine wpAnyH_ready (rs := [9]) (by kernel_rfl) (by simp) ?_
  refine AllReadyH.cons rfl (fun K hK => ?_) AllReadyH.nil
  go_simp
  go_wp2_with (go_at_call 129; refine ((unhide hcC) _).mono ?_; rintro e x7 ⟨rfl, E9⟩; have F7 : Ext U x7 := F6.trans (by first | exact E9 | exact (Ext.refl _).drew.trans E9); have d7 := F7.kept (unhide HB0); clear E9)
  refine hK.out _ _ ⟨cells_of d7 0 _ rfl, cells_of d7 1 _ rfl, cells_of d7 2 _ rfl, cells_of d7 3 _ rfl⟩ (fun hHeld => ?_)
  clear hK K
  refine wpAnyH_take (i := 10) (v := ?_) rfl (by kernel_rfl) (by kernel_rfl) (by kernel_rfl) (fun _ _ _ h => h) (Or.inl ⟨by rfl, ?_⟩) (by assumption) ?_
  rotate_left
  · intro w' hSw; go_simp <;> with_reducible rfl
  simp only [Act.put, qA, qB, qC, qD, qE, qF]
  refine wpAnyH_ready (rs := [13]) (by kernel_rfl) (by simp) ?_
  refine AllReadyH.cons rfl (fun K hK => ?_) AllReadyH.nil
  go_simp
  go_wp2_with (go_at_call 129; refine ((unhide hcB) _).mono ?_; rintro e x8 ⟨rfl, E9⟩; have F8 : Ext U x8 := F7.trans (by first | exact E9 | exact (Ext.refl _).drew.trans E9); have d8 := F8.kept (unhide HB0); clear E9)
  refine hK.out _ _ ⟨cells_of d8 0 _ rfl, cells_of d8 1 _ rfl, cells_of d8 2 _ rfl, cells_of d8 3 _ rfl⟩ (fun hHeld => ?_)
  clear hK K
  refine wpAnyH_take (i := 14) (v := ?_) rfl (by kernel_rfl) (by kernel_rfl) (by kernel_rfl) (fun _ _ _ h => h) (Or.inl ⟨by rfl, ?_⟩) (by assumption) ?_
  rotate_left
  · intro w' hSw; go_simp <;> with_reducible rfl
  simp only [Act.put, qA, qB, qC, qD, qE, qF]
  refine wpAnyH_take (i := 15) (v := ?_) rfl (by kernel_rfl) (by kernel_rfl) (by kernel_rfl) (fun _ _ _ h => h) (Or.inl ⟨by rfl, ?_⟩) (by assumption) ?_
  rotate_left
  · intro w' hSw; go_simp <;> with_reducible rfl
  simp only [Act.put, qA, qB, qC, qD, qE, qF]
  refine wpAnyH_take (i := 16) (v := ?_) rfl (by kernel_rfl) (by kernel_rfl) (by kernel_rfl) (fun _ _ _ h => h) (Or.inl ⟨by rfl, ?_⟩) (by assumption) ?_
  rotate_left
  · intro w' hSw; go_simp <;> with_reducible rfl
  simp only [Act.put, qA, qB, qC, qD, qE, qF]
  refine wpAnyH_done (by kernel_rfl) ?_ _
  replace HB0 := hide d8
  replace HB1 := hide (F8.kept (unhide HB1))
  have s7 := F8.size
  have q1 : x8.cell? ⟨w.heap.size, 0, none⟩ = some (.string a) ∧ x8.cell? ⟨w.heap.size, 1, none⟩ = some (.string b) ∧ x8.cell? ⟨w.heap.size, 2, none⟩ = some (.string c) ∧ x8.cell? ⟨w.heap.size, 3, none⟩ = some (.slice ao un.length ca) := ⟨cells_of (unhide HB0) 0 _ rfl, cells_of (unhide HB0) 1 _ rfl, cells_of (unhide HB0) 2 _ rfl, cells_of (unhide HB0) 3 _ rfl⟩
  obtain ⟨q10, q11, q12, q13⟩ := q1
  go_wp2_with fail
  refine ((unhide HS) _ _ _ ((unhide HE0).trans F8)).mono ?_
  rintro e w9 ⟨v9, rfl, hO, E9⟩
  obtain ⟨ua, uc, rfl⟩ : ∃ ua uc, v9 = .slice ua (undoN un (a, b)).length uc := by
    obtain ⟨x, y, e, _⟩ := hO.reads
    exact ⟨x, y, e⟩
  have HO := hide hO
  replace HB1 := hide (E9.kept (unhide HB1))
  have HEa := hide (((unhide HE0).trans F8).trans E9)
  have s9 := E9.size
  clear hO E9 q10 q11 q12 q13
  go_wp2_with (first | (refine wpList_store_blk rfl 46 _ _ rfl rfl (w.heap.size + 2) rfl _ _ _ rfl (unhide HB1) infoL rfl (by simp [Value.oneCell']) ?_; intro Z hy hf9; have HY := hide hy; have FY := hide hf9; clear hy hf9))
  have v0 : Z.cell? ⟨w.heap.size + 2, 0, none⟩ = some (.string (a ++ c)) := cells_of (unhide HY) 0 _ rfl
  have v1 : Z.cell? ⟨w.heap.size + 2, 1, none⟩ = some (.string b) := cells_of (unhide HY) 1 _ rfl
  have v2 : Z.cell? ⟨w.heap.size + 2, 2, none⟩ = some (.string c) := cells_of (unhide HY) 2 _ rfl
  have v3 : Z.cell? ⟨w.heap.size + 2, 3, none⟩ = some (.slice ua (undoN un (a, b)).length uc) := cells_of (unhide HY) 3 _ rfl
  exact bodyPost_ret (v := .tuple #[.agg #[.string (a ++ c), .string b, .string c, .slice ua (undoN un (a, b)).length uc], .int .i64 1]) (by simp [results, Tryd.results111, go_sem, v0, v1, v2, v3]) rfl (by rw [unhide HXO]; exact ⟨⟨_, rfl, ((unhide HO).fr (unhide FY) (fun g hg e9 => by have := ((unhide HO).lt g hg).1; omega)).mono (by omega)⟩, (unhide FY).ext (unhide HEa) (fun q hq => by omega)⟩)
end Go.Proofs.YtbieoijeilhadaaDoor

namespace Go.Proofs.YtbieoijeilhadaaDoor
open Go.RowKit
set_option linter.unusedSimpArgs false in
set_option maxRecDepth 10000 in
set_option maxHeartbeats 8000000 in
theorem l4Put_zero (a b c : ByteArray) (v : Value) (un : List (ByteArray × ByteArray)) (rv : Value) (rs : List Int) (w : World) (hv : LnAt w v un) (hn : un.length ≤ 50) (_za : a.size ≤ 1048576) (_zb : b.size ≤ 1048576) (hr : IntsAt w .i32 rv rs) (h0 : rs.length = 0) :
    Calls Tryd.prog 125 #[.agg #[.string a, .string b, .string c, v], rv] w fun e w' => LnO w' w.heap.size ⟨a, b, c, un, 0⟩ e ∧ Ext w w' := by
  have infoL : (Tryd.prog.info? 46).map (·.size) = some 4 := by kernel_rfl
  obtain ⟨ao, ca, rfl, _, _⟩ := id hv
  obtain ⟨ra, rc, rfl, _⟩ := id hr
  have HC := hide (fun W (E : Ext w W) => l4Copy_any a b c (.slice ao un.length ca) un.length (lnT un) (lnH un) W (Row2At.ext hv E) (by omega))
  clear hv hr
  rw [h0]
  obtain ⟨V, hV⟩ : ∃ V, V = (w.alloc (.cells #[.string a, .string b, .string c, .slice ao un.length ca] 46)).alloc (.cells #[.string { data := #[] }, .string { data := #[] }, .string { data := #[] }, .slice none 0 0] 46) := ⟨_, rfl⟩
  have E0 : Ext w V := by rw [hV]; exact ((Ext.refl w).alloc _).alloc _
  have HB0 : Hid (V.heap[w.heap.size]? = some (.cells #[.string a, .string b, .string c, .slice ao un.length ca] 46 (0, 0))) := hide (by rw [hV]; exact ((Ext.refl _).alloc _).kept (new_block w _))
  have HB1 : Hid (V.heap[w.heap.size + 1]? = some (.cells #[.string { data := #[] }, .string { data := #[] }, .string { data := #[] }, .slice none 0 0] 46 (0, 0))) := hide (by rw [hV]; have h := new_block (w.alloc (.cells #[.string a, .string b, .string c, .slice ao un.length ca] 46)) (.cells #[.string { data := #[] }, .string { data := #[] }, .string { data := #[] }, .slice none 0 0] 46); rw [show (w.alloc (.cells #[.string a, .string b, .string c, .slice ao un.length ca] 46)).heap.size = w.heap.size + 1 by simp] at h; exact h)
  have sz0 : w.heap.size + 1 < V.heap.size := lt_of_block (unhide HB1)
  subst hV
  have HE0 := hide E0
  have HCV := hide ((unhide HC) _ E0)
  clear E0 HC
  go_enter Tryd.func125, Tryd.ntmps125
  have HCc := HCV
  go_wp2_with (first
    | (refine wpList_load_blk rfl 46 _ rfl (w.heap.size) rfl _ _ _ _ (unhide HB0) Tryd.underlying46 rfl infoL ?_))
  refine (unhide HCc).mono ?_
  rintro e w5 ⟨ua, uc, rfl, HO, E5⟩
  have z5 := (unhide HE0).size
  replace HB1 := hide (E5.kept (unhide HB1))
  replace HE0 := hide ((unhide HE0).trans E5)
  clear E5 HB0 HCc
  go_wp2_with (first
    | (refine wpList_store_blk rfl 46 _ _ rfl rfl (w.heap.size + 1) rfl _ _ _ rfl (unhide HB1) infoL rfl (by simp [Value.oneCell']) ?_; intro Z hy hf9; have HY := hide hy; have FY := hide hf9; clear hy hf9))
  have v0 : Z.cell? ⟨w.heap.size + 1, 0, none⟩ = some (.string a) := cells_of (unhide HY) 0 _ rfl
  have v1 : Z.cell? ⟨w.heap.size + 1, 1, none⟩ = some (.string b) := cells_of (unhide HY) 1 _ rfl
  have v2 : Z.cell? ⟨w.heap.size + 1, 2, none⟩ = some (.string c) := cells_of (unhide HY) 2 _ rfl
  have v3 : Z.cell? ⟨w.heap.size + 1, 3, none⟩ = some (.slice ua un.length uc) := cells_of (unhide HY) 3 _ rfl
  exact bodyPost_ret (v := .tuple #[.agg #[.string a, .string b, .string c, .slice ua un.length uc], .int .i64 0]) (by simp [results, Tryd.results125, go_sem, v0, v1, v2, v3]) rfl (⟨⟨_, rfl, ((unhide HO).fr (unhide FY) (fun g hg e9 => by have := ((unhide HO).lt g hg).1; omega)).mono (by omega)⟩, (unhide FY).ext (unhide HE0) (fun q hq => by omega)⟩)
set_option linter.unusedSimpArgs false in
set_option maxRecDepth 10000 in
set_option maxHeartbeats 8000000 in
theorem l4Put_big (a b c : ByteArray) (v : Value) (un : List (ByteArray × ByteArray)) (rv : Value) (rs : List Int) (w : World) (hv : LnAt w v un) (hn : un.length ≤ 50) (_za : a.size ≤ 1048576) (_zb : b.size ≤ 1048576) (hr : IntsAt w .i32 rv rs) (h0 : 300 < rs.length) :
    Calls Tryd.prog 125 #[.agg #[.string a, .string b, .string c, v], rv] w fun e w' => LnO w' w.heap.size ⟨a, b, c, un, 2⟩ e ∧ Ext w w' := by
  have infoL : (Tryd.prog.info? 46).map (·.size) = some 4 := by kernel_rfl
  obtain ⟨ao, ca, rfl, _, _⟩ := id hv
  obtain ⟨ra, rc, rfl, _⟩ := id hr
  have HC := hide (fun W (E : Ext w W) => l4Copy_any a b c (.slice ao un.length ca) un.length (lnT un) (lnH un) W (Row2At.ext hv E) (by omega))
  clear hv hr
  obtain ⟨m, hm⟩ : ∃ m, rs.length = m := ⟨_, rfl⟩
  rw [hm] at h0 ⊢
  have h1 : ¬ (m : Int) = 0 := by omega
  have h2 : ¬ m = 0 := by omega
  have h3 : (300 : Int) < (m : Int) := by omega
  obtain ⟨V, hV⟩ : ∃ V, V = (w.alloc (.cells #[.string a, .string b, .string c, .slice ao un.length ca] 46)).alloc (.cells #[.string { data := #[] }, .string { data := #[] }, .string { data := #[] }, .slice none 0 0] 46) := ⟨_, rfl⟩
  have E0 : Ext w V := by rw [hV]; exact ((Ext.refl w).alloc _).alloc _
  have HB0 : Hid (V.heap[w.heap.size]? = some (.cells #[.string a, .string b, .string c, .slice ao un.length ca] 46 (0, 0))) := hide (by rw [hV]; exact ((Ext.refl _).alloc _).kept (new_block w _))
  have HB1 : Hid (V.heap[w.heap.size + 1]? = some (.cells #[.string { data := #[] }, .string { data := #[] }, .string { data := #[] }, .slice none 0 0] 46 (0, 0))) := hide (by rw [hV]; have h := new_block (w.alloc (.cells #[.string a, .string b, .string c, .slice ao un.length ca] 46)) (.cells #[.string { data := #[] }, .string { data := #[] }, .string { data := #[] }, .slice none 0 0] 46); rw [show (w.alloc (.cells #[.string a, .string b, .string c, .slice ao un.length ca] 46)).heap.size = w.heap.size + 1 by simp] at h; exact h)
  have sz0 : w.heap.size + 1 < V.heap.size := lt_of_block (unhide HB1)
  subst hV
  have HE0 := hide E0
  have HCV := hide ((unhide HC) _ E0)
  clear E0 HC
  go_enter Tryd.func125, Tryd.ntmps125
  have HCc := HCV
  go_wp2_with (first
    | (refine wpList_load_blk rfl 46 _ rfl (w.heap.size) rfl _ _ _ _ (unhide HB0) Tryd.underlying46 rfl infoL ?_))
  refine (unhide HCc).mono ?_
  rintro e w5 ⟨ua, uc, rfl, HO, E5⟩
  have z5 := (unhide HE0).size
  replace HB1 := hide (E5.kept (unhide HB1))
  replace HE0 := hide ((unhide HE0).trans E5)
  clear E5 HB0 HCc
  go_wp2_with (first
    | (refine wpList_store_blk rfl 46 _ _ rfl rfl (w.heap.size + 1) rfl _ _ _ rfl (unhide HB1) infoL rfl (by simp [Value.oneCell']) ?_; intro Z hy hf9; have HY := hide hy; have FY := hide hf9; clear hy hf9))
  have v0 : Z.cell? ⟨w.heap.size + 1, 0, none⟩ = some (.string a) := cells_of (unhide HY) 0 _ rfl
  have v1 : Z.cell? ⟨w.heap.size + 1, 1, none⟩ = some (.string b) := cells_of (unhide HY) 1 _ rfl
  have v2 : Z.cell? ⟨w.heap.size + 1, 2, none⟩ = some (.string c) := cells_of (unhide HY) 2 _ rfl
  have v3 : Z.cell? ⟨w.heap.size + 1, 3, none⟩ = some (.slice ua un.length uc) := cells_of (unhide HY) 3 _ rfl
  exact bodyPost_ret (v := .tuple #[.agg #[.string a, .string b, .string c, .slice ua un.length uc], .int .i64 2]) (by simp [results, Tryd.results125, go_sem, v0, v1, v2, v3]) rfl (⟨⟨_, rfl, ((unhide HO).fr (unhide FY) (fun g hg e9 => by have := ((unhide HO).lt g hg).1; omega)).mono (by omega)⟩, (unhide FY).ext (unhide HE0) (fun q hq => by omega)⟩)
end Go.Proofs.YtbieoijeilhadaaDoor

namespace Go.Proofs.YtbieoijeilhadaaDoor
open Go.RowKit
set_option linter.unusedSimpArgs false in
set_option maxRecDepth 10000 in
set_option maxHeartbeats 8000000 in
theorem l4Put_bell (a b c : ByteArray) (v : Value) (un : List (ByteArray × ByteArray)) (rv : Value) (rs : List Int) (w : World) (hv : LnAt w v un) (hn : un.length ≤ 50) (za : a.size ≤ 1048576) (zb : b.size ≤ 1048576) (hr : IntsAt w .i32 rv rs) (iR : I32s rs) (h0 : 0 < rs.length ∧ rs.length ≤ 300) (na : (cleanL (baL a)).length ≤ 300) (hb : 300 < (flat (clusC (cleanL (baL a) ++ rs))).length + (cleanL (baL b)).length) :
    Calls Tryd.prog 125 #[.agg #[.string a, .string b, .string c, v], rv] w fun e w' => LnO w' w.heap.size ⟨a, b, c, un, 2⟩ e ∧ Ext w w' := by
  have infoL : (Tryd.prog.info? 46).map (·.size) = some 4 := by kernel_rfl
  obtain ⟨ao, ca, rfl, _, _⟩ := id hv
  obtain ⟨ra, rc, rfl, _⟩ := id hr
  have HC := hide (fun W (E : Ext w W) => l4Copy_any a b c (.slice ao un.length ca) un.length (lnT un) (lnH un) W (Row2At.ext hv E) (by omega))
  obtain ⟨ic, hic, hc0, hc1, hc2⟩ := info_parts infoI32u
  have HS := hide (fun l r W (E : Ext w W) => l4Set_any a b c l r (.slice ao un.length ca) un.length (lnT un) (lnH un) W (Row2At.ext hv E) hn)
  rw [unL_ln] at HS
  have HSr := hide (fun W (E : Ext w W) => Src.ints (hr.ext E))
  obtain ⟨h0, h1⟩ := h0
  have hN : (cleanL (baL a) ++ rs).length ≤ 600 := by rw [List.length_append]; omega
  have fl6 : (flat (clusC (cleanL (baL a) ++ rs))).length ≤ 2000 := by
    rw [flat_len]
    have := clF_sum (cleanL (baL a) ++ rs) (cleanL (baL a) ++ rs).length
    have h2 := clF_len (cleanL (baL a) ++ rs) (cleanL (baL a) ++ rs).length
    unfold clusC
    omega
  obtain ⟨X, hX⟩ : ∃ X, X = toBA (textC (clusC (cleanL (baL a) ++ rs))) := ⟨_, rfl⟩
  have HK := hide (fun v W (hv : IntsAt W .i32 v (cleanL (baL a) ++ rs)) => specClusters_any v _ W hv (fun z hz => (List.mem_append.1 hz).elim (cleanL_i32 _ z) (iR z)) (by omega))
  have HTx := hide (fun v W (hv : ClsAt W v (clusC (cleanL (baL a) ++ rs))) => specTextOf_any v _ W hv (clusC_fit _ (by omega)) (fun j _ => clF_i32 _ _ j))
  have HCt := hide (fun W => l4Count_any (textC (clusC (cleanL (baL a) ++ rs))) (txT_bytes _ _) W (by rw [textC_flat]; have := encA_len (flat (clusC (cleanL (baL a) ++ rs))); omega))
  rw [clean_text] at HCt
  rw [← hX] at HTx HCt
  have HCb := hide (fun W => l4Count_ba b W zb)
  obtain ⟨f1, hf1⟩ : ∃ n, (flat (clusC (cleanL (baL a) ++ rs))).length = n := ⟨_, rfl⟩
  obtain ⟨f2, hf2⟩ : ∃ n, (cleanL (baL b)).length = n := ⟨_, rfl⟩
  have z2 : f2 ≤ 1048576 := by rw [← hf2]; have := cleanL_len (baL b); rw [baL_len] at this; omega
  rw [hf1] at HCt fl6 hb
  rw [hf2] at HCb hb
  have hw : IntKind.i64.wrap ((f1 : Int) + (f2 : Int)) = (f1 : Int) + (f2 : Int) := by rw [IntKind.wrap_i64]; omega
  have HXX := hide hX
  have lcl := cleanL_len (baL a)
  rw [baL_len] at lcl
  have HL : Hid (cleanL (baL a) = cleanL (baL a)) := hide rfl
  clear hv hX hf1 hf2
  obtain ⟨m, hm⟩ : ∃ m, rs.length = m := ⟨_, rfl⟩
  have HM := hide hm
  rw [hm] at h0 h1 ⊢
  have g1 : ¬ (m : Int) = 0 := by omega
  have g2 : ¬ m = 0 := by omega
  have g3 : ¬ (300 : Int) < (m : Int) := by omega
  clear hm
  obtain ⟨V, hV⟩ : ∃ V, V = (w.alloc (.cells #[.string a, .string b, .string c, .slice ao un.length ca] 46)).alloc (.cells #[.string { data := #[] }, .string { data := #[] }, .string { data := #[] }, .slice none 0 0] 46) := ⟨_, rfl⟩
  have E0 : Ext w V := by rw [hV]; exact ((Ext.refl w).alloc _).alloc _
  have HB0 : Hid (V.heap[w.heap.size]? = some (.cells #[.string a, .string b, .string c, .slice ao un.length ca] 46 (0, 0))) := hide (by rw [hV]; exact ((Ext.refl _).alloc _).kept (new_block w _))
  have HB1 : Hid (V.heap[w.heap.size + 1]? = some (.cells #[.string { data := #[] }, .string { data := #[] }, .string { data := #[] }, .slice none 0 0] 46 (0, 0))) := hide (by rw [hV]; have h := new_block (w.alloc (.cells #[.string a, .string b, .string c, .slice ao un.length ca] 46)) (.cells #[.string { data := #[] }, .string { data := #[] }, .string { data := #[] }, .slice none 0 0] 46); rw [show (w.alloc (.cells #[.string a, .string b, .string c, .slice ao un.length ca] 46)).heap.size = w.heap.size + 1 by simp] at h; exact h)
  have sz0 : w.heap.size + 1 < V.heap.size := lt_of_block (unhide HB1)
  obtain ⟨v0, w0, hrun, i0, E1⟩ := run_s2i (P := Tryd.prog) V _ _ _ Tryd.underlying9 Tryd.underlying22 Tryd.underlying5 (baL a) (baL_bytes a)
  rw [toBA_baL] at hrun
  have HCl := hide (specClean_any (baL a) (baL_bytes a) v0 w0 i0 (by rw [baL_len]; omega))
  have q0 : V.cell? ⟨w.heap.size, 0, none⟩ = some (.string a) := cells_of (unhide HB0) 0 _ rfl
  rw [hV] at hrun q0
  replace HB0 := hide (E1.kept (unhide HB0))
  replace HB1 := hide (E1.kept (unhide HB1))
  have HE0 := hide (E0.trans E1)
  have z0 := E1.size
  have HBz0 := HB0
  have HBz1 := HB1
  have HEz := HE0
  clear hV E0 E1 i0 hr
  go_enter Tryd.func125, Tryd.ntmps125
  go_wp2_with fail
  refine (unhide HCl).mono ?_
  rintro e w1 ⟨v1, rfl, o1, E1⟩
  obtain ⟨a1, c1, rfl⟩ := owns_ln o1
  replace HB0 := hide (E1.kept (unhide HB0))
  replace HB1 := hide (E1.kept (unhide HB1))
  replace HE0 := hide ((unhide HE0).trans E1)
  have z1 := E1.size
  have HO1 := hide o1
  have HX1 := hide E1
  clear HCl E1 o1 hrun q0
  go_wp2_with (at_builtin; go_loud (
     refine wpList_app rfl _ _ 55 rfl w0.heap.size 21 ic (.int .i32 0) 1 4 Tryd.underlying55 hic hc0 hc1 hc2 rfl (by decide) (.slice a1 (cleanL (baL a)).length c1) _ _ rfl (unhide HO1) _ _ _ rfl (by have := (unhide HSr) w1 (unhide HE0); rw [unhide HM] at this; exact this) (by unfold maxLen; omega) (by omega) z1 ?_
     intro v3 w3 o3 G3 _
     have E3 : Ext w0 w3 := (by exact Ext.grown (w := w0) (W := w1) (unhide HX1) G3 (fun b hb => ((unhide HO1).lt b hb).1))
     have i3 : IntsAt w3 .i32 v3 (cleanL (baL a) ++ rs) := (by
       have e2 : (cleanL (baL a)).length + m = (cleanL (baL a) ++ rs).length := (by rw [List.length_append, unhide HM])
       rw [← List.map_append, e2] at o3
       exact ints_of_owns o3)
     obtain ⟨a3, c3, rfl⟩ := owns_ln o3
     have HI3 := hide i3
     have HE3 := hide E3
     clear o3 G3 E3 i3))
  refine ((unhide HK) _ w3 (unhide HI3)).mono ?_
  rintro e w4 ⟨v4, rs4, rfl, o4, E4⟩
  have HT4 := hide ((unhide HTx) _ w4 o4.cls)
  obtain ⟨a4, c4, rfl⟩ : ∃ x y, v4 = .slice x (clusC (cleanL (baL a) ++ rs)).length y := by
    obtain ⟨_, ao, cc, e, _⟩ := o4.cls
    exact ⟨ao, cc, e⟩
  replace HE3 := hide ((unhide HE3).trans E4)
  clear HK HI3 E4 o4 HTx
  go_wp2_with fail
  refine (unhide HT4).mono ?_
  rintro e w5 ⟨rfl, E5⟩
  replace HE3 := hide ((unhide HE3).trans E5)
  replace HB0 := hide ((unhide HE3).kept (unhide HBz0))
  replace HB1 := hide ((unhide HE3).kept (unhide HBz1))
  replace HE0 := hide ((unhide HEz).trans (unhide HE3))
  have z5 := (unhide HE3).size
  have q0 : w5.cell? ⟨w.heap.size, 0, none⟩ = some (.string a) ∧ w5.cell? ⟨w.heap.size, 1, none⟩ = some (.string b) ∧ w5.cell? ⟨w.heap.size, 2, none⟩ = some (.string c) ∧ w5.cell? ⟨w.heap.size, 3, none⟩ = some (.slice ao un.length ca) := ⟨cells_of (unhide HB0) 0 _ rfl, cells_of (unhide HB0) 1 _ rfl, cells_of (unhide HB0) 2 _ rfl, cells_of (unhide HB0) 3 _ rfl⟩
  clear HT4 E5 HO1 HSr HE3 HBz0 HBz1 HEz
  go_wp2_with fail
  refine wp_region_held_drew (S := fun W => W.cell? ⟨w.heap.size, 0, none⟩ = some (.string a) ∧ W.cell? ⟨w.heap.size, 1, none⟩ = some (.string b) ∧ W.cell? ⟨w.heap.size, 2, none⟩ = some (.string c) ∧ W.cell? ⟨w.heap.size, 3, none⟩ = some (.slice ao un.length ca)) (by kernel_rfl) q0 (fun hHeld => ?_)
  refine wpAnyH_take (i := 0) (v := ?_) rfl (by kernel_rfl) (by kernel_rfl) (by kernel_rfl) (fun _ _ _ h => h) (Or.inl ⟨by rfl, ?_⟩) (by assumption) ?_
  rotate_left
  · intro w' hSw; go_simp <;> with_reducible rfl
  simp only [Act.put, qA, qB, qC, qD, qE, qF]
  refine wpAnyH_take (i := 2) (v := ?_) rfl (by kernel_rfl) (by kernel_rfl) (by kernel_rfl) (fun _ _ _ h => h) (Or.inl ⟨by rfl, ?_⟩) (by assumption) ?_
  rotate_left
  · intro w' hSw; go_simp <;> with_reducible rfl
  simp only [Act.put, qA, qB, qC, qD, qE, qF]
  refine wpAnyH_take (i := 3) (v := ?_) rfl (by kernel_rfl) (by kernel_rfl) (by kernel_rfl) (fun _ _ _ h => h) (Or.inl ⟨by rfl, ?_⟩) (by assumption) ?_
  rotate_left
  · intro w' hSw; go_simp <;> with_reducible rfl
  simp only [Act.put, qA, qB, qC, qD, qE, qF]
  refine wpAnyH_ready (rs := [1]) (by kernel_rfl) (by simp) ?_
  refine AllReadyH.cons rfl (fun K hK => ?_) AllReadyH.nil
  go_simp
  go_wp2_with (go_at_call 129; refine ((unhide HCt) _).mono ?_; rintro e w6 ⟨rfl, E6⟩; have F6 : Ext w5 w6 := (by first | exact E6 | exact (Ext.refl _).drew.trans E6); have d0 := F6.kept (unhide HB0); clear E6)
  refine hK.out _ _ ⟨cells_of d0 0 _ rfl, cells_of d0 1 _ rfl, cells_of d0 2 _ rfl, cells_of d0 3 _ rfl⟩ (fun hHeld => ?_)
  clear hK K
  refine wpAnyH_ready (rs := [4]) (by kernel_rfl) (by simp) ?_
  refine AllReadyH.cons rfl (fun K hK => ?_) AllReadyH.nil
  go_simp
  go_wp2_with (go_at_call 129; refine ((unhide HCb) _).mono ?_; rintro e w7 ⟨rfl, E7⟩; have F7 : Ext w5 w7 := (by first | exact F6.trans E7 | exact F6.drew.trans E7); have d1 := F7.kept (unhide HB0); clear E7)
  refine hK.out _ _ ⟨cells_of d1 0 _ rfl, cells_of d1 1 _ rfl, cells_of d1 2 _ rfl, cells_of d1 3 _ rfl⟩ (fun hHeld => ?_)
  clear hK K
  refine wpAnyH_take (i := 5) (v := ?_) rfl (by kernel_rfl) (by kernel_rfl) (by kernel_rfl) (fun _ _ _ h => h) (Or.inl ⟨by rfl, ?_⟩) (by assumption) ?_
  rotate_left
  · intro w' hSw; go_simp <;> with_reducible rfl
  simp only [Act.put, qA, qB, qC, qD, qE, qF]
  refine wpAnyH_take (i := 6) (v := ?_) rfl (by kernel_rfl) (by kernel_rfl) (by kernel_rfl) (fun _ _ _ h => h) (Or.inl ⟨by rfl, ?_⟩) (by assumption) ?_
  rotate_left
  · intro w' hSw; go_simp <;> with_reducible rfl
  simp only [Act.put, qA, qB, qC, qD, qE, qF]
  refine wpAnyH_done (by kernel_rfl) ?_ _
  replace HB0 := hide d1
  replace HB1 := hide (F7.kept (unhide HB1))
  replace HE0 := hide ((unhide HE0).trans F7)
  have z7 := F7.size
  clear F6 F7 d0 d1 q0
  have hbI : (300 : Int) < (f1 : Int) + (f2 : Int) := by omega
  have HCc := hide ((unhide HC) w7 (unhide HE0))
  clear HC
  go_wp2_with (first
    | (refine wpList_load_blk rfl 46 _ rfl (w.heap.size) rfl _ _ _ _ (unhide HB0) Tryd.underlying46 rfl infoL ?_))
  refine (unhide HCc).mono ?_
  rintro e w5 ⟨ua, uc, rfl, HO, E5⟩
  have z5 := (unhide HE0).size
  replace HB1 := hide (E5.kept (unhide HB1))
  replace HE0 := hide ((unhide HE0).trans E5)
  clear E5 HB0 HCc
  go_wp2_with (first
    | (refine wpList_store_blk rfl 46 _ _ rfl rfl (w.heap.size + 1) rfl _ _ _ rfl (unhide HB1) infoL rfl (by simp [Value.oneCell']) ?_; intro Z hy hf9; have HY := hide hy; have FY := hide hf9; clear hy hf9))
  have v0 : Z.cell? ⟨w.heap.size + 1, 0, none⟩ = some (.string a) := cells_of (unhide HY) 0 _ rfl
  have v1 : Z.cell? ⟨w.heap.size + 1, 1, none⟩ = some (.string b) := cells_of (unhide HY) 1 _ rfl
  have v2 : Z.cell? ⟨w.heap.size + 1, 2, none⟩ = some (.string c) := cells_of (unhide HY) 2 _ rfl
  have v3 : Z.cell? ⟨w.heap.size + 1, 3, none⟩ = some (.slice ua un.length uc) := cells_of (unhide HY) 3 _ rfl
  exact bodyPost_ret (v := .tuple #[.agg #[.string a, .string b, .string c, .slice ua un.length uc], .int .i64 2]) (by simp [results, Tryd.results125, go_sem, v0, v1, v2, v3]) rfl (⟨⟨_, rfl, ((unhide HO).fr (unhide FY) (fun g hg e9 => by have := ((unhide HO).lt g hg).1; omega)).mono (by omega)⟩, (unhide FY).ext (unhide HE0) (fun q hq => by omega)⟩)
end Go.Proofs.YtbieoijeilhadaaDoor

namespace Go.Proofs.YtbieoijeilhadaaDoor
open Go.RowKit
set_option linter.unusedSimpArgs false in
set_option maxRecDepth 10000 in
set_option maxHeartbeats 8000000 in
theorem l4Put_yes (a b c : ByteArray) (v : Value) (un : List (ByteArray × ByteArray)) (rv : Value) (rs : List Int) (w : World) (hv : LnAt w v un) (hn : un.length ≤ 50) (za : a.size ≤ 1048576) (zb : b.size ≤ 1048576) (hr : IntsAt w .i32 rv rs) (iR : I32s rs) (h0 : 0 < rs.length ∧ rs.length ≤ 300) (na : (cleanL (baL a)).length ≤ 300) (hb : ¬ 300 < (flat (clusC (cleanL (baL a) ++ rs))).length + (cleanL (baL b)).length) :
    Calls Tryd.prog 125 #[.agg #[.string a, .string b, .string c, v], rv] w fun e w' => LnO w' w.heap.size (edSet a b c un (toBA (textC (clusC (cleanL (baL a) ++ rs)))) b) e ∧ Ext w w' := by
  have infoL : (Tryd.prog.info? 46).map (·.size) = some 4 := by kernel_rfl
  obtain ⟨ao, ca, rfl, _, _⟩ := id hv
  obtain ⟨ra, rc, rfl, _⟩ := id hr
  have HC := hide (fun W (E : Ext w W) => l4Copy_any a b c (.slice ao un.length ca) un.length (lnT un) (lnH un) W (Row2At.ext hv E) (by omega))
  obtain ⟨ic, hic, hc0, hc1, hc2⟩ := info_parts infoI32u
  have HS := hide (fun l r W (E : Ext w W) => l4Set_any a b c l r (.slice ao un.length ca) un.length (lnT un) (lnH un) W (Row2At.ext hv E) hn)
  rw [unL_ln] at HS
  have HSr := hide (fun W (E : Ext w W) => Src.ints (hr.ext E))
  obtain ⟨h0, h1⟩ := h0
  have hN : (cleanL (baL a) ++ rs).length ≤ 600 := by rw [List.length_append]; omega
  have fl6 : (flat (clusC (cleanL (baL a) ++ rs))).length ≤ 2000 := by
    rw [flat_len]
    have := clF_sum (cleanL (baL a) ++ rs) (cleanL (baL a) ++ rs).length
    have h2 := clF_len (cleanL (baL a) ++ rs) (cleanL (baL a) ++ rs).length
    unfold clusC
    omega
  obtain ⟨X, hX⟩ : ∃ X, X = toBA (textC (clusC (cleanL (baL a) ++ rs))) := ⟨_, rfl⟩
  have HK := hide (fun v W (hv : IntsAt W .i32 v (cleanL (baL a) ++ rs)) => specClusters_any v _ W hv (fun z hz => (List.mem_append.1 hz).elim (cleanL_i32 _ z) (iR z)) (by omega))
  have HTx := hide (fun v W (hv : ClsAt W v (clusC (cleanL (baL a) ++ rs))) => specTextOf_any v _ W hv (clusC_fit _ (by omega)) (fun j _ => clF_i32 _ _ j))
  have HCt := hide (fun W => l4Count_any (textC (clusC (cleanL (baL a) ++ rs))) (txT_bytes _ _) W (by rw [textC_flat]; have := encA_len (flat (clusC (cleanL (baL a) ++ rs))); omega))
  rw [clean_text] at HCt
  rw [← hX] at HTx HCt
  have HCb := hide (fun W => l4Count_ba b W zb)
  obtain ⟨f1, hf1⟩ : ∃ n, (flat (clusC (cleanL (baL a) ++ rs))).length = n := ⟨_, rfl⟩
  obtain ⟨f2, hf2⟩ : ∃ n, (cleanL (baL b)).length = n := ⟨_, rfl⟩
  have z2 : f2 ≤ 1048576 := by rw [← hf2]; have := cleanL_len (baL b); rw [baL_len] at this; omega
  rw [hf1] at HCt fl6 hb
  rw [hf2] at HCb hb
  have hw : IntKind.i64.wrap ((f1 : Int) + (f2 : Int)) = (f1 : Int) + (f2 : Int) := by rw [IntKind.wrap_i64]; omega
  have HXX := hide hX
  have lcl := cleanL_len (baL a)
  rw [baL_len] at lcl
  have HL : Hid (cleanL (baL a) = cleanL (baL a)) := hide rfl
  clear hv hX hf1 hf2
  obtain ⟨m, hm⟩ : ∃ m, rs.length = m := ⟨_, rfl⟩
  have HM := hide hm
  rw [hm] at h0 h1 ⊢
  have g1 : ¬ (m : Int) = 0 := by omega
  have g2 : ¬ m = 0 := by omega
  have g3 : ¬ (300 : Int) < (m : Int) := by omega
  clear hm
  obtain ⟨V, hV⟩ : ∃ V, V = (w.alloc (.cells #[.string a, .string b, .string c, .slice ao un.length ca] 46)).alloc (.cells #[.string { data := #[] }, .string { data := #[] }, .string { data := #[] }, .slice none 0 0] 46) := ⟨_, rfl⟩
  have E0 : Ext w V := by rw [hV]; exact ((Ext.refl w).alloc _).alloc _
  have HB0 : Hid (V.heap[w.heap.size]? = some (.cells #[.string a, .string b, .string c, .slice ao un.length ca] 46 (0, 0))) := hide (by rw [hV]; exact ((Ext.refl _).alloc _).kept (new_block w _))
  have HB1 : Hid (V.heap[w.heap.size + 1]? = some (.cells #[.string { data := #[] }, .string { data := #[] }, .string { data := #[] }, .slice none 0 0] 46 (0, 0))) := hide (by rw [hV]; have h := new_block (w.alloc (.cells #[.string a, .string b, .string c, .slice ao un.length ca] 46)) (.cells #[.string { data := #[] }, .string { data := #[] }, .string { data := #[] }, .slice none 0 0] 46); rw [show (w.alloc (.cells #[.string a, .string b, .string c, .slice ao un.length ca] 46)).heap.size = w.heap.size + 1 by simp] at h; exact h)
  have sz0 : w.heap.size + 1 < V.heap.size := lt_of_block (unhide HB1)
  obtain ⟨v0, w0, hrun, i0, E1⟩ := run_s2i (P := Tryd.prog) V _ _ _ Tryd.underlying9 Tryd.underlying22 Tryd.underlying5 (baL a) (baL_bytes a)
  rw [toBA_baL] at hrun
  have HCl := hide (specClean_any (baL a) (baL_bytes a) v0 w0 i0 (by rw [baL_len]; omega))
  have q0 : V.cell? ⟨w.heap.size, 0, none⟩ = some (.string a) := cells_of (unhide HB0) 0 _ rfl
  rw [hV] at hrun q0
  replace HB0 := hide (E1.kept (unhide HB0))
  replace HB1 := hide (E1.kept (unhide HB1))
  have HE0 := hide (E0.trans E1)
  have z0 := E1.size
  have HBz0 := HB0
  have HBz1 := HB1
  have HEz := HE0
  clear hV E0 E1 i0 hr
  go_enter Tryd.func125, Tryd.ntmps125
  go_wp2_with fail
  refine (unhide HCl).mono ?_
  rintro e w1 ⟨v1, rfl, o1, E1⟩
  obtain ⟨a1, c1, rfl⟩ := owns_ln o1
  replace HB0 := hide (E1.kept (unhide HB0))
  replace HB1 := hide (E1.kept (unhide HB1))
  replace HE0 := hide ((unhide HE0).trans E1)
  have z1 := E1.size
  have HO1 := hide o1
  have HX1 := hide E1
  clear HCl E1 o1 hrun q0
  go_wp2_with (at_builtin; go_loud (
     refine wpList_app rfl _ _ 55 rfl w0.heap.size 21 ic (.int .i32 0) 1 4 Tryd.underlying55 hic hc0 hc1 hc2 rfl (by decide) (.slice a1 (cleanL (baL a)).length c1) _ _ rfl (unhide HO1) _ _ _ rfl (by have := (unhide HSr) w1 (unhide HE0); rw [unhide HM] at this; exact this) (by unfold maxLen; omega) (by omega) z1 ?_
     intro v3 w3 o3 G3 _
     have E3 : Ext w0 w3 := (by exact Ext.grown (w := w0) (W := w1) (unhide HX1) G3 (fun b hb => ((unhide HO1).lt b hb).1))
     have i3 : IntsAt w3 .i32 v3 (cleanL (baL a) ++ rs) := (by
       have e2 : (cleanL (baL a)).length + m = (cleanL (baL a) ++ rs).length := (by rw [List.length_append, unhide HM])
       rw [← List.map_append, e2] at o3
       exact ints_of_owns o3)
     obtain ⟨a3, c3, rfl⟩ := owns_ln o3
     have HI3 := hide i3
     have HE3 := hide E3
     clear o3 G3 E3 i3))
  refine ((unhide HK) _ w3 (unhide HI3)).mono ?_
  rintro e w4 ⟨v4, rs4, rfl, o4, E4⟩
  have HT4 := hide ((unhide HTx) _ w4 o4.cls)
  obtain ⟨a4, c4, rfl⟩ : ∃ x y, v4 = .slice x (clusC (cleanL (baL a) ++ rs)).length y := by
    obtain ⟨_, ao, cc, e, _⟩ := o4.cls
    exact ⟨ao, cc, e⟩
  replace HE3 := hide ((unhide HE3).trans E4)
  clear HK HI3 E4 o4 HTx
  go_wp2_with fail
  refine (unhide HT4).mono ?_
  rintro e w5 ⟨rfl, E5⟩
  replace HE3 := hide ((unhide HE3).trans E5)
  replace HB0 := hide ((unhide HE3).kept (unhide HBz0))
  replace HB1 := hide ((unhide HE3).kept (unhide HBz1))
  replace HE0 := hide ((unhide HEz).trans (unhide HE3))
  have z5 := (unhide HE3).size
  have q0 : w5.cell? ⟨w.heap.size, 0, none⟩ = some (.string a) ∧ w5.cell? ⟨w.heap.size, 1, none⟩ = some (.string b) ∧ w5.cell? ⟨w.heap.size, 2, none⟩ = some (.string c) ∧ w5.cell? ⟨w.heap.size, 3, none⟩ = some (.slice ao un.length ca) := ⟨cells_of (unhide HB0) 0 _ rfl, cells_of (unhide HB0) 1 _ rfl, cells_of (unhide HB0) 2 _ rfl, cells_of (unhide HB0) 3 _ rfl⟩
  clear HT4 E5 HO1 HSr HE3 HBz0 HBz1 HEz
  go_wp2_with fail
  refine wp_region_held_drew (S := fun W => W.cell? ⟨w.heap.size, 0, none⟩ = some (.string a) ∧ W.cell? ⟨w.heap.size, 1, none⟩ = some (.string b) ∧ W.cell? ⟨w.heap.size, 2, none⟩ = some (.string c) ∧ W.cell? ⟨w.heap.size, 3, none⟩ = some (.slice ao un.length ca)) (by kernel_rfl) q0 (fun hHeld => ?_)
  refine wpAnyH_take (i := 0) (v := ?_) rfl (by kernel_rfl) (by kernel_rfl) (by kernel_rfl) (fun _ _ _ h => h) (Or.inl ⟨by rfl, ?_⟩) (by assumption) ?_
  rotate_left
  · intro w' hSw; go_simp <;> with_reducible rfl
  simp only [Act.put, qA, qB, qC, qD, qE, qF]
  refine wpAnyH_take (i := 2) (v := ?_) rfl (by kernel_rfl) (by kernel_rfl) (by kernel_rfl) (fun _ _ _ h => h) (Or.inl ⟨by rfl, ?_⟩) (by assumption) ?_
  rotate_left
  · intro w' hSw; go_simp <;> with_reducible rfl
  simp only [Act.put, qA, qB, qC, qD, qE, qF]
  refine wpAnyH_take (i := 3) (v := ?_) rfl (by kernel_rfl) (by kernel_rfl) (by kernel_rfl) (fun _ _ _ h => h) (Or.inl ⟨by rfl, ?_⟩) (by assumption) ?_
  rotate_left
  · intro w' hSw; go_simp <;> with_reducible rfl
  simp only [Act.put, qA, qB, qC, qD, qE, qF]
  refine wpAnyH_ready (rs := [1]) (by kernel_rfl) (by simp) ?_
  refine AllReadyH.cons rfl (fun K hK => ?_) AllReadyH.nil
  go_simp
  go_wp2_with (go_at_call 129; refine ((unhide HCt) _).mono ?_; rintro e w6 ⟨rfl, E6⟩; have F6 : Ext w5 w6 := (by first | exact E6 | exact (Ext.refl _).drew.trans E6); have d0 := F6.kept (unhide HB0); clear E6)
  refine hK.out _ _ ⟨cells_of d0 0 _ rfl, cells_of d0 1 _ rfl, cells_of d0 2 _ rfl, cells_of d0 3 _ rfl⟩ (fun hHeld => ?_)
  clear hK K
  refine wpAnyH_ready (rs := [4]) (by kernel_rfl) (by simp) ?_
  refine AllReadyH.cons rfl (fun K hK => ?_) AllReadyH.nil
  go_simp
  go_wp2_with (go_at_call 129; refine ((unhide HCb) _).mono ?_; rintro e w7 ⟨rfl, E7⟩; have F7 : Ext w5 w7 := (by first | exact F6.trans E7 | exact F6.drew.trans E7); have d1 := F7.kept (unhide HB0); clear E7)
  refine hK.out _ _ ⟨cells_of d1 0 _ rfl, cells_of d1 1 _ rfl, cells_of d1 2 _ rfl, cells_of d1 3 _ rfl⟩ (fun hHeld => ?_)
  clear hK K
  refine wpAnyH_take (i := 5) (v := ?_) rfl (by kernel_rfl) (by kernel_rfl) (by kernel_rfl) (fun _ _ _ h => h) (Or.inl ⟨by rfl, ?_⟩) (by assumption) ?_
  rotate_left
  · intro w' hSw; go_simp <;> with_reducible rfl
  simp only [Act.put, qA, qB, qC, qD, qE, qF]
  refine wpAnyH_take (i := 6) (v := ?_) rfl (by kernel_rfl) (by kernel_rfl) (by kernel_rfl) (fun _ _ _ h => h) (Or.inl ⟨by rfl, ?_⟩) (by assumption) ?_
  rotate_left
  · intro w' hSw; go_simp <;> with_reducible rfl
  simp only [Act.put, qA, qB, qC, qD, qE, qF]
  refine wpAnyH_done (by kernel_rfl) ?_ _
  replace HB0 := hide d1
  replace HB1 := hide (F7.kept (unhide HB1))
  replace HE0 := hide ((unhide HE0).trans F7)
  have z7 := F7.size
  clear F6 F7 d0 d1 q0
  have hbI : ¬ (300 : Int) < (f1 : Int) + (f2 : Int) := by omega
  have c0 : w7.cell? ⟨w.heap.size, 1, none⟩ = some (.string b) := cells_of (unhide HB0) 1 _ rfl
  have HSc := hide ((unhide HS) X b w7 (unhide HE0))
  clear HS HC
  go_wp2_with (first
    | (refine wpList_load_blk rfl 46 _ rfl (w.heap.size) rfl _ _ _ _ (unhide HB0) Tryd.underlying46 rfl infoL ?_))
  refine (unhide HSc).mono ?_
  rintro e w8 ⟨v8, rfl, hO, E8⟩
  obtain ⟨ua, uc, rfl⟩ : ∃ ua uc, v8 = .slice ua (undoN un (a, b)).length uc := by
    obtain ⟨x, y, e, _⟩ := hO.reads
    exact ⟨x, y, e⟩
  have HO := hide hO
  replace HB1 := hide (E8.kept (unhide HB1))
  replace HE0 := hide ((unhide HE0).trans E8)
  clear E8 HB0 HSc hO c0
  go_wp2_with (first
    | (refine wpList_store_blk rfl 46 _ _ rfl rfl (w.heap.size + 1) rfl _ _ _ rfl (unhide HB1) infoL rfl (by simp [Value.oneCell']) ?_; intro Z hy hf9; have HY := hide hy; have FY := hide hf9; clear hy hf9))
  have v0 : Z.cell? ⟨w.heap.size + 1, 0, none⟩ = some (.string X) := cells_of (unhide HY) 0 _ rfl
  have v1 : Z.cell? ⟨w.heap.size + 1, 1, none⟩ = some (.string b) := cells_of (unhide HY) 1 _ rfl
  have v2 : Z.cell? ⟨w.heap.size + 1, 2, none⟩ = some (.string c) := cells_of (unhide HY) 2 _ rfl
  have v3 : Z.cell? ⟨w.heap.size + 1, 3, none⟩ = some (.slice ua (undoN un (a, b)).length uc) := cells_of (unhide HY) 3 _ rfl
  exact bodyPost_ret (v := .tuple #[.agg #[.string X, .string b, .string c, .slice ua (undoN un (a, b)).length uc], .int .i64 1]) (by simp [results, Tryd.results125, go_sem, v0, v1, v2, v3]) rfl (by rw [← unhide HXX]; exact ⟨⟨_, rfl, ((unhide HO).fr (unhide FY) (fun g hg e9 => by have := ((unhide HO).lt g hg).1; omega)).mono (by omega)⟩, (unhide FY).ext (unhide HE0) (fun q hq => by omega)⟩)
end Go.Proofs.YtbieoijeilhadaaDoor

namespace Go.Proofs.YtbieoijeilhadaaDoor
open Go.RowKit
set_option maxRecDepth 10000 in
set_option maxHeartbeats 4000000 in
theorem specSetText_no (a b c : ByteArray) (v : Value) (n : Nat) (tx hf : Nat → ByteArray) (s : ByteArray) (w : World) (hv : Row2At w v n (fun j => .string (tx j)) (fun j => .string (hf j))) (ha : a.size ≤ 1048576) (hb : b.size ≤ 1048576) (hc : c.size ≤ 1048576) (hn : n ≤ 1048576) (hx : ∀ j, j < n → (tx j).size ≤ 1048576 ∧ (hf j).size ≤ 1048576) (hs : s.size ≤ 1048576) (hP : ¬ (LineP a b c n tx hf ∧ TextP (baL s))) :
    Calls Tryd.prog 110 #[.agg #[.string a, .string b, .string c, v], .string s] w fun e w' => ∃ v', e = .returned (.tuple #[.agg #[.string a, .string b, .string c, v'], .bool false]) ∧ Own2 w' w.heap.size 140 v' n (fun j => .string (tx j)) (fun j => .string (hf j)) ∧ Ext w w' := by
  obtain ⟨ok, hok⟩ := ex_bool (LineP a b c n tx hf)
  obtain ⟨ot, hot⟩ := ex_bool (TextP (baL s))
  have hno : ok = true → ot = false := fun h => not_ok hot (fun h2 => hP ⟨hok.1 h, h2⟩)
  have infoL : (Tryd.prog.info? 46).map (·.size) = some 4 := by kernel_rfl
  obtain ⟨ao, ca, rfl, _, _⟩ := id hv
  have H1 := hide (fun W (E : Ext w W) => specLineOk_all a b c ao n ca tx hf W (hv.ext E) ha hb hc hx ok hok)
  have H2 := hide (fun W => l4TextOk_ba s W hs ot hot)
  have H3 := hide (fun W (E : Ext w W) => l4Copy_any a b c (.slice ao n ca) n tx hf W (hv.ext E) hn)
  have HV := hide hv
  clear hok hot hP hv hx
  obtain ⟨V, hV⟩ : ∃ V, V = (w.alloc (.cells #[.string a, .string b, .string c, .slice ao n ca] 46)).alloc (.cells #[.string { data := #[] }, .string { data := #[] }, .string { data := #[] }, .slice none 0 0] 46) := ⟨_, rfl⟩
  have E0 : Ext w V := by rw [hV]; exact ((Ext.refl w).alloc _).alloc _
  have HB0 : Hid (V.heap[w.heap.size]? = some (.cells #[.string a, .string b, .string c, .slice ao n ca] 46 (0, 0))) := hide (by rw [hV]; exact ((Ext.refl _).alloc _).kept (new_block w _))
  have HB1 : Hid (V.heap[w.heap.size + 1]? = some (.cells #[.string { data := #[] }, .string { data := #[] }, .string { data := #[] }, .slice none 0 0] 46 (0, 0))) := hide (by rw [hV]; have h := new_block (w.alloc (.cells #[.string a, .string b, .string c, .slice ao n ca] 46)) (.cells #[.string { data := #[] }, .string { data := #[] }, .string { data := #[] }, .slice none 0 0] 46); rw [show (w.alloc (.cells #[.string a, .string b, .string c, .slice ao n ca] 46)).heap.size = w.heap.size + 1 by simp] at h; exact h)
  have sz0 : w.heap.size + 1 < V.heap.size := by rw [hV]; simp
  have HW := hide hV
  clear hV
  go_enter Tryd.func110, Tryd.ntmps110
  go_wp2_with fail
  rw [← unhide HW]
  clear HW
  refine ((unhide H1) _ E0).mono ?_
  rintro e w1 ⟨rfl, E1⟩
  have E01 := E0.trans E1
  replace HB0 := hide (E1.kept (unhide HB0))
  replace HB1 := hide (E1.kept (unhide HB1))
  have z1 := E1.size
  clear E0 E1 H1
  cases ok
  · have c0 : w1.cell? ⟨w.heap.size, 0, none⟩ = some (.string a) := cells_of (unhide HB0) 0 _ rfl
    have c1 : w1.cell? ⟨w.heap.size, 1, none⟩ = some (.string b) := cells_of (unhide HB0) 1 _ rfl
    have c2 : w1.cell? ⟨w.heap.size, 2, none⟩ = some (.string c) := cells_of (unhide HB0) 2 _ rfl
    have c3 : w1.cell? ⟨w.heap.size, 3, none⟩ = some (.slice ao n ca) := cells_of (unhide HB0) 3 _ rfl
    go_wp2_with fail
    refine ((unhide H3) _ E01).mono ?_
    rintro e w2 ⟨ua, uc, rfl, HO, E2⟩
    replace HB1 := hide (E2.kept (unhide HB1))
    have HE := hide (E01.trans E2)
    clear E2 c0 c1 c2 c3
    go_wp2_with (first
      | (refine wpList_store_blk rfl 46 _ _ rfl rfl (w.heap.size + 1) rfl _ _ _ rfl (unhide HB1) infoL rfl (by simp [Value.oneCell']) ?_; intro Z hy hf9; have HY := hide hy; have FY := hide hf9; clear hy hf9))
    have v0 : Z.cell? ⟨w.heap.size + 1, 0, none⟩ = some (.string a) := cells_of (unhide HY) 0 _ rfl
    have v1 : Z.cell? ⟨w.heap.size + 1, 1, none⟩ = some (.string b) := cells_of (unhide HY) 1 _ rfl
    have v2 : Z.cell? ⟨w.heap.size + 1, 2, none⟩ = some (.string c) := cells_of (unhide HY) 2 _ rfl
    have v3 : Z.cell? ⟨w.heap.size + 1, 3, none⟩ = some (.slice ua n uc) := cells_of (unhide HY) 3 _ rfl
    exact bodyPost_ret (v := .tuple #[.agg #[.string a, .string b, .string c, .slice ua n uc], .bool false]) (by simp [results, Tryd.results110, go_sem, v0, v1, v2, v3]) rfl ⟨_, rfl, ((unhide HO).fr (unhide FY) (fun g hg e9 => by have := ((unhide HO).lt g hg).1; omega)).mono (by omega), (unhide FY).ext (unhide HE) (fun q hq => by omega)⟩
  · obtain rfl := hno rfl
    go_wp2_with fail
    refine ((unhide H2) _).mono ?_
    rintro e w3 ⟨rfl, E3⟩
    replace HB0 := hide (E3.kept (unhide HB0))
    replace HB1 := hide (E3.kept (unhide HB1))
    have E03 := E01.trans E3
    have z3 := E3.size
    clear E3 E01
    have c0 : w3.cell? ⟨w.heap.size, 0, none⟩ = some (.string a) := cells_of (unhide HB0) 0 _ rfl
    have c1 : w3.cell? ⟨w.heap.size, 1, none⟩ = some (.string b) := cells_of (unhide HB0) 1 _ rfl
    have c2 : w3.cell? ⟨w.heap.size, 2, none⟩ = some (.string c) := cells_of (unhide HB0) 2 _ rfl
    have c3 : w3.cell? ⟨w.heap.size, 3, none⟩ = some (.slice ao n ca) := cells_of (unhide HB0) 3 _ rfl
    go_wp2_with fail
    refine ((unhide H3) _ E03).mono ?_
    rintro e w2 ⟨ua, uc, rfl, HO, E2⟩
    replace HB1 := hide (E2.kept (unhide HB1))
    have HE := hide (E03.trans E2)
    clear E2 c0 c1 c2 c3
    go_wp2_with (first
      | (refine wpList_store_blk rfl 46 _ _ rfl rfl (w.heap.size + 1) rfl _ _ _ rfl (unhide HB1) infoL rfl (by simp [Value.oneCell']) ?_; intro Z hy hf9; have HY := hide hy; have FY := hide hf9; clear hy hf9))
    have v0 : Z.cell? ⟨w.heap.size + 1, 0, none⟩ = some (.string a) := cells_of (unhide HY) 0 _ rfl
    have v1 : Z.cell? ⟨w.heap.size + 1, 1, none⟩ = some (.string b) := cells_of (unhide HY) 1 _ rfl
    have v2 : Z.cell? ⟨w.heap.size + 1, 2, none⟩ = some (.string c) := cells_of (unhide HY) 2 _ rfl
    have v3 : Z.cell? ⟨w.heap.size + 1, 3, none⟩ = some (.slice ua n uc) := cells_of (unhide HY) 3 _ rfl
    exact bodyPost_ret (v := .tuple #[.agg #[.string a, .string b, .string c, .slice ua n uc], .bool false]) (by simp [results, Tryd.results110, go_sem, v0, v1, v2, v3]) rfl ⟨_, rfl, ((unhide HO).fr (unhide FY) (fun g hg e9 => by have := ((unhide HO).lt g hg).1; omega)).mono (by omega), (unhide FY).ext (unhide HE) (fun q hq => by omega)⟩
set_option maxRecDepth 10000 in
set_option maxHeartbeats 4000000 in
theorem specSetText_yes (a b c : ByteArray) (v : Value) (n : Nat) (tx hf : Nat → ByteArray) (s : ByteArray) (w : World) (hv : Row2At w v n (fun j => .string (tx j)) (fun j => .string (hf j))) (ha : a.size ≤ 1048576) (hb : b.size ≤ 1048576) (hc : c.size ≤ 1048576) (_hn : n ≤ 1048576) (hx : ∀ j, j < n → (tx j).size ≤ 1048576 ∧ (hf j).size ≤ 1048576) (hs : s.size ≤ 1048576) (hP : LineP a b c n tx hf) (hS : TextP (baL s)) :
    Calls Tryd.prog 110 #[.agg #[.string a, .string b, .string c, v], .string s] w fun e w' => ∃ v', e = .returned (.tuple #[.agg #[.string s, .string noT, .string c, v'], .bool true]) ∧ Own2 w' w.heap.size 140 v' (undoN (unL tx hf n) (a, b)).length (fun j => .string (lnT (undoN (unL tx hf n) (a, b)) j)) (fun j => .string (lnH (undoN (unL tx hf n) (a, b)) j)) ∧ Ext w w' := by
  obtain ⟨uz, huz⟩ : ∃ uz, uz = undoN (unL tx hf n) (a, b) := ⟨_, rfl⟩
  have infoL : (Tryd.prog.info? 46).map (·.size) = some 4 := by kernel_rfl
  obtain ⟨ao, ca, rfl, _, _⟩ := id hv
  have H1 := hide (fun W (E : Ext w W) => specLineOk_all a b c ao n ca tx hf W (hv.ext E) ha hb hc hx true (by simp [hP]))
  have H2 := hide (fun W => l4TextOk_ba s W hs true (by simp [hS]))
  have H3 := hide (fun W (E : Ext w W) => l4Set_any a b c s noT (.slice ao n ca) n tx hf W (hv.ext E) hP.1)
  rw [← huz] at H3 ⊢
  clear hP hS hv hx huz
  obtain ⟨V, hV⟩ : ∃ V, V = (w.alloc (.cells #[.string a, .string b, .string c, .slice ao n ca] 46)).alloc (.cells #[.string { data := #[] }, .string { data := #[] }, .string { data := #[] }, .slice none 0 0] 46) := ⟨_, rfl⟩
  have E0 : Ext w V := by rw [hV]; exact ((Ext.refl w).alloc _).alloc _
  have HB0 : Hid (V.heap[w.heap.size]? = some (.cells #[.string a, .string b, .string c, .slice ao n ca] 46 (0, 0))) := hide (by rw [hV]; exact ((Ext.refl _).alloc _).kept (new_block w _))
  have HB1 : Hid (V.heap[w.heap.size + 1]? = some (.cells #[.string { data := #[] }, .string { data := #[] }, .string { data := #[] }, .slice none 0 0] 46 (0, 0))) := hide (by rw [hV]; have h := new_block (w.alloc (.cells #[.string a, .string b, .string c, .slice ao n ca] 46)) (.cells #[.string { data := #[] }, .string { data := #[] }, .string { data := #[] }, .slice none 0 0] 46); rw [show (w.alloc (.cells #[.string a, .string b, .string c, .slice ao n ca] 46)).heap.size = w.heap.size + 1 by simp] at h; exact h)
  have sz0 : w.heap.size + 1 < V.heap.size := by rw [hV]; simp
  have HW := hide hV
  clear hV
  go_enter Tryd.func110, Tryd.ntmps110
  go_wp2_with fail
  rw [← unhide HW]
  clear HW
  refine ((unhide H1) _ E0).mono ?_
  rintro e w1 ⟨rfl, E1⟩
  have E01 := E0.trans E1
  replace HB0 := hide (E1.kept (unhide HB0))
  replace HB1 := hide (E1.kept (unhide HB1))
  have z1 := E1.size
  clear E0 E1 H1
  go_wp2_with fail
  refine ((unhide H2) _).mono ?_
  rintro e w3 ⟨rfl, E3⟩
  replace HB0 := hide (E3.kept (unhide HB0))
  replace HB1 := hide (E3.kept (unhide HB1))
  have E03 := E01.trans E3
  have z3 := E3.size
  clear E3 E01
  have c0 : w3.cell? ⟨w.heap.size, 0, none⟩ = some (.string a) := cells_of (unhide HB0) 0 _ rfl
  have c1 : w3.cell? ⟨w.heap.size, 1, none⟩ = some (.string b) := cells_of (unhide HB0) 1 _ rfl
  have c2 : w3.cell? ⟨w.heap.size, 2, none⟩ = some (.string c) := cells_of (unhide HB0) 2 _ rfl
  have c3 : w3.cell? ⟨w.heap.size, 3, none⟩ = some (.slice ao n ca) := cells_of (unhide HB0) 3 _ rfl
  go_wp2_with fail
  refine ((unhide H3) _ E03).mono ?_
  rintro e w2 ⟨v2, rfl, hO, E2⟩
  obtain ⟨ua, un, uc, rfl⟩ : ∃ ua un uc, v2 = .slice ua un uc := by
    obtain ⟨g1, g2, e1, _⟩ := hO.reads
    exact ⟨_, _, _, e1⟩
  have HO := hide hO
  clear hO
  replace HB1 := hide (E2.kept (unhide HB1))
  have HE := hide (E03.trans E2)
  clear E2 c0 c1 c2 c3
  go_wp2_with (first
    | (refine wpList_store_blk rfl 46 _ _ rfl rfl (w.heap.size + 1) rfl _ _ _ rfl (unhide HB1) infoL rfl (by simp [Value.oneCell']) ?_; intro Z hy hf9; have HY := hide hy; have FY := hide hf9; clear hy hf9))
  have v0 : Z.cell? ⟨w.heap.size + 1, 0, none⟩ = some (.string s) := cells_of (unhide HY) 0 _ rfl
  have v1 : Z.cell? ⟨w.heap.size + 1, 1, none⟩ = some (.string noT) := cells_of (unhide HY) 1 _ rfl
  have v2 : Z.cell? ⟨w.heap.size + 1, 2, none⟩ = some (.string c) := cells_of (unhide HY) 2 _ rfl
  have v3 : Z.cell? ⟨w.heap.size + 1, 3, none⟩ = some (.slice ua un uc) := cells_of (unhide HY) 3 _ rfl
  exact bodyPost_ret (v := .tuple #[.agg #[.string s, .string noT, .string c, .slice ua un uc], .bool true]) (by simp [results, Tryd.results110, go_sem, v0, v1, v2, v3]) rfl ⟨_, rfl, ((unhide HO).fr (unhide FY) (fun g hg e9 => by have := ((unhide HO).lt g hg).1; omega)).mono (by omega), (unhide FY).ext (unhide HE) (fun q hq => by omega)⟩
end Go.Proofs.YtbieoijeilhadaaDoor
