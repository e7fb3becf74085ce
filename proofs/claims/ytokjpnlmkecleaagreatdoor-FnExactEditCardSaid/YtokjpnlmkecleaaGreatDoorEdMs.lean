import Derived.Test.YtokjpnlmkecleaaGreatDoorGap
import Derived.Test.YtokjpnlmkecleaaGreatDoorEdK
import Derived.Deep.RegionHeldLaw
namespace Go.Proofs.YtokjpnlmkecleaaGreatDoor
open Go.RowKit

set_option maxRecDepth 10000 in
set_option maxHeartbeats 8000000 in
theorem l4Moved_19_no (a b c : ByteArray) (v : Value) (un : List (ByteArray × ByteArray)) (w : World) (hv : LnAt w v un) (za : a.size ≤ 1048576) (zb : b.size ≤ 1048576) (XA XB : ByteArray) (N : Int) (hw : IntKind.i64.wrap (((cutC (baL a)).length : Int) + (wdR (cutC (baL b)) : Int)) = N ∧ ¬ N = -2) (HM : ∀ W u, Ext w W → LnAt W u un → Calls Tryz.prog 65 #[.agg #[.string a, .string b, .string c, u], .int .i64 N] W fun e w' => LnO w' W.heap.size ⟨XA, XB, c, un, 2⟩ e ∧ Ext W w') :
    Calls Tryz.prog 31 #[.agg #[.string a, .string b, .string c, v], .int .i64 19] w fun e w' => LnO w' w.heap.size ⟨XA, XB, c, un, 2⟩ e ∧ Ext w w' := by
  have infoL : (Tryz.prog.info? 25).map (·.size) = some 4 := by kernel_rfl
  have hcA := hide (fun W => l4Cut_any (baL a) (baL_bytes a) W (by rw [baL_len]; omega))
  have hcB := hide (fun W => l4Cut_any (baL b) (baL_bytes b) W (by rw [baL_len]; omega))
  rw [toBA_baL] at hcA hcB
  have lA := cutC_len (baL a)
  have lB := cutC_len (baL b)
  rw [baL_len] at lA lB
  obtain ⟨ao, ca, rfl, _, _⟩ := id hv
  have HMv := hide (fun W (E : Ext w W) => HM W _ E (hv.ext E))
  have HWd := hide (fun v W (hv : ClsAt W v (cutC (baL b))) => l4WordRight_any v (cutC (baL b)) W hv (by omega))
  obtain ⟨hw1, hw2⟩ := hw
  clear hv HM
  obtain ⟨A, hA⟩ : ∃ A, A = cutC (baL a) := ⟨_, rfl⟩
  obtain ⟨B, hB⟩ : ∃ B, B = cutC (baL b) := ⟨_, rfl⟩
  rw [← hA] at hcA lA hw1
  rw [← hB] at hcB lB HWd hw1
  obtain ⟨nA, hnA⟩ : ∃ n, A.length = n := ⟨_, rfl⟩
  obtain ⟨nB, hnB⟩ : ∃ n, B.length = n := ⟨_, rfl⟩
  rw [hnA] at hw1
  have HWs : Hid (∀ r : Nat, Wd (fun j => spB (cR B j)) B.length r → r = wdR B) := hide (fun r h => (wdN_eq h).symm)
  obtain ⟨R, hR⟩ : ∃ R, wdR B = R := ⟨_, rfl⟩
  rw [hR] at hw1 HWs
  clear hR
  have HNA := hide hnA
  have HNB := hide hnB
  clear hA hB hnA hnB
  obtain ⟨V, hV⟩ : ∃ V, V = (w.alloc (.cells #[.string a, .string b, .string c, .slice ao un.length ca] 25)).alloc (.cells #[.string { data := #[] }, .string { data := #[] }, .string { data := #[] }, .slice none 0 0] 25) := ⟨_, rfl⟩
  have E0 : Ext w V := by rw [hV]; exact ((Ext.refl w).alloc _).alloc _
  have HB0 : Hid (V.heap[w.heap.size]? = some (.cells #[.string a, .string b, .string c, .slice ao un.length ca] 25 (0, 0))) := hide (by rw [hV]; exact ((Ext.refl _).alloc _).kept (new_block w _))
  have HB1 : Hid (V.heap[w.heap.size + 1]? = some (.cells #[.string { data := #[] }, .string { data := #[] }, .string { data := #[] }, .slice none 0 0] 25 (0, 0))) := hide (by rw [hV]; have h := new_block (w.alloc (.cells #[.string a, .string b, .string c, .slice ao un.length ca] 25)) (.cells #[.string { data := #[] }, .string { data := #[] }, .string { data := #[] }, .slice none 0 0] 25); rw [show (w.alloc (.cells #[.string a, .string b, .string c, .slice ao un.length ca] 25)).heap.size = w.heap.size + 1 by simp] at h; exact h)
  have sz0 : w.heap.size + 1 < V.heap.size := lt_of_block (unhide HB1)
  have HW := hide hV
  have HE0 := hide E0
  clear hV E0
  go_enter Tryz.func31, Tryz.ntmps31
  go_wp2_with fail
  rw [← unhide HW]
  clear HW
  refine ((unhide hcA) _).mono ?_
  rintro e w2 ⟨v2, rs2, rfl, o2, E2⟩
  obtain ⟨a2, c2, rfl⟩ : ∃ a c, v2 = .slice a A.length c := by
    obtain ⟨_, ao, cc, e, _⟩ := o2.cls
    exact ⟨ao, cc, e⟩
  have H2 := hide o2.cls
  rw [unhide HNA] at H2 ⊢
  replace HB0 := hide (E2.kept (unhide HB0))
  replace HB1 := hide (E2.kept (unhide HB1))
  replace HE0 := hide ((unhide HE0).trans E2)
  have q1 : w2.cell? ⟨w.heap.size, 1, none⟩ = some (.string b) := cells_of (unhide HB0) 1 _ rfl
  have z2 := E2.size
  clear o2 E2 hcA
  go_wp2_with fail
  refine ((unhide hcB) _).mono ?_
  rintro e w3 ⟨v3, rs3, rfl, o3, E3⟩
  obtain ⟨a3, c3, rfl⟩ : ∃ a c, v3 = .slice a B.length c := by
    obtain ⟨_, ao, cc, e, _⟩ := o3.cls
    exact ⟨ao, cc, e⟩
  have H3 := hide o3.cls
  rw [unhide HNB] at H3 ⊢
  replace H2 := hide ((unhide H2).ext E3)
  replace HB0 := hide (E3.kept (unhide HB0))
  replace HB1 := hide (E3.kept (unhide HB1))
  replace HE0 := hide ((unhide HE0).trans E3)
  have z3 := E3.size
  clear o3 E3 hcB q1
  go_wp2_with fail
  refine ((unhide HWd) _ _ (unhide H3)).mono ?_
  rintro e w4 ⟨r, rfl, hwd, E4⟩
  have hrN := (unhide HWs) r hwd
  subst hrN
  replace HB0 := hide (E4.kept (unhide HB0))
  replace HB1 := hide (E4.kept (unhide HB1))
  replace HE0 := hide ((unhide HE0).trans E4)
  have z4 := E4.size
  clear hwd E4 HWd HWs
  have HMc := hide ((unhide HMv) w4 (unhide HE0))
  clear HMv H2 H3 HNA HNB
  go_wp2_with (first
    | (refine wpList_load_blk rfl 25 _ rfl (w.heap.size) rfl _ _ _ _ (unhide HB0) Tryz.underlying25 rfl infoL ?_))
  refine (unhide HMc).mono ?_
  rintro e w5 ⟨⟨v5, rfl, hl5⟩, E5⟩
  obtain ⟨ua, uc, rfl⟩ : ∃ ua uc, v5 = .slice ua un.length uc := by
    obtain ⟨x, y, e, _⟩ := hl5.reads
    exact ⟨x, y, e⟩
  have HL5 := hide hl5
  replace HB1 := hide (E5.kept (unhide HB1))
  replace HE0 := hide ((unhide HE0).trans E5)
  have HN := hide (heap_alloc_new w5 (.cells #[.string { data := #[] }, .string { data := #[] }, .string { data := #[] }, .slice none 0 0] 25))
  have hz5 : w.heap.size + 1 < w5.heap.size := lt_of_block (unhide HB1)
  clear HMc E5 hl5 HB0
  dsimp only
  go_wp2_with (first
    | (refine wpList_store_blk rfl 25 _ _ rfl rfl (w5.heap.size) rfl _ _ _ rfl (unhide HN) infoL rfl (by simp [Value.oneCell']) ?_; intro U hB hU; have hU1 := hU.ext ((Ext.refl w5).alloc _) (fun q hq => by omega); have HEU := hide hU1; have HBU := hide hB; have HB1s := hide (hU1.kept (unhide HB1)); clear hB hU hU1)
    | (refine wpList_load_blk rfl 25 _ rfl (w5.heap.size) rfl _ _ _ _ (unhide HBU) Tryz.underlying25 rfl infoL ?_)
    | (refine wpList_store_blk rfl 25 _ _ rfl rfl (w.heap.size + 1) rfl _ _ _ rfl (unhide HB1s) infoL rfl (by simp [Value.oneCell']) ?_; intro Z hy hf9; have HY := hide hy; have FY := hide hf9; clear hy hf9))
  have v0 : Z.cell? ⟨w.heap.size + 1, 0, none⟩ = some (.string XA) := cells_of (unhide HY) 0 _ rfl
  have v1 : Z.cell? ⟨w.heap.size + 1, 1, none⟩ = some (.string XB) := cells_of (unhide HY) 1 _ rfl
  have v2 : Z.cell? ⟨w.heap.size + 1, 2, none⟩ = some (.string c) := cells_of (unhide HY) 2 _ rfl
  have v3 : Z.cell? ⟨w.heap.size + 1, 3, none⟩ = some (.slice ua un.length uc) := cells_of (unhide HY) 3 _ rfl
  exact bodyPost_ret (v := .tuple #[.agg #[.string XA, .string XB, .string c, .slice ua un.length uc], .int .i64 2]) (by simp [results, Tryz.results31, go_sem, v0, v1, v2, v3]) rfl ⟨⟨_, rfl, (((unhide HL5).ext (unhide HEU)).fr (unhide FY) (fun g hg e9 => by have := ((unhide HL5).lt g hg).1; omega)).mono (by omega)⟩, (unhide FY).ext ((unhide HE0).trans (unhide HEU)) (fun q hq => by omega)⟩
set_option maxRecDepth 10000 in
set_option maxHeartbeats 8000000 in
theorem l4Moved_19_yes (a b c : ByteArray) (v : Value) (un : List (ByteArray × ByteArray)) (w : World) (hv : LnAt w v un) (za : a.size ≤ 1048576) (zb : b.size ≤ 1048576) (XA XB : ByteArray) (N : Int) (hw : IntKind.i64.wrap (((cutC (baL a)).length : Int) + (wdR (cutC (baL b)) : Int)) = N ∧ ¬ N = -2) (HM : ∀ W u, Ext w W → LnAt W u un → Calls Tryz.prog 65 #[.agg #[.string a, .string b, .string c, u], .int .i64 N] W fun e w' => LnO w' W.heap.size ⟨XA, XB, c, un, 1⟩ e ∧ Ext W w') :
    Calls Tryz.prog 31 #[.agg #[.string a, .string b, .string c, v], .int .i64 19] w fun e w' => LnO w' w.heap.size ⟨XA, XB, c, un, 1⟩ e ∧ Ext w w' := by
  have infoL : (Tryz.prog.info? 25).map (·.size) = some 4 := by kernel_rfl
  have hcA := hide (fun W => l4Cut_any (baL a) (baL_bytes a) W (by rw [baL_len]; omega))
  have hcB := hide (fun W => l4Cut_any (baL b) (baL_bytes b) W (by rw [baL_len]; omega))
  rw [toBA_baL] at hcA hcB
  have lA := cutC_len (baL a)
  have lB := cutC_len (baL b)
  rw [baL_len] at lA lB
  obtain ⟨ao, ca, rfl, _, _⟩ := id hv
  have HMv := hide (fun W (E : Ext w W) => HM W _ E (hv.ext E))
  have HWd := hide (fun v W (hv : ClsAt W v (cutC (baL b))) => l4WordRight_any v (cutC (baL b)) W hv (by omega))
  obtain ⟨hw1, hw2⟩ := hw
  clear hv HM
  obtain ⟨A, hA⟩ : ∃ A, A = cutC (baL a) := ⟨_, rfl⟩
  obtain ⟨B, hB⟩ : ∃ B, B = cutC (baL b) := ⟨_, rfl⟩
  rw [← hA] at hcA lA hw1
  rw [← hB] at hcB lB HWd hw1
  obtain ⟨nA, hnA⟩ : ∃ n, A.length = n := ⟨_, rfl⟩
  obtain ⟨nB, hnB⟩ : ∃ n, B.length = n := ⟨_, rfl⟩
  rw [hnA] at hw1
  have HWs : Hid (∀ r : Nat, Wd (fun j => spB (cR B j)) B.length r → r = wdR B) := hide (fun r h => (wdN_eq h).symm)
  obtain ⟨R, hR⟩ : ∃ R, wdR B = R := ⟨_, rfl⟩
  rw [hR] at hw1 HWs
  clear hR
  have HNA := hide hnA
  have HNB := hide hnB
  clear hA hB hnA hnB
  obtain ⟨V, hV⟩ : ∃ V, V = (w.alloc (.cells #[.string a, .string b, .string c, .slice ao un.length ca] 25)).alloc (.cells #[.string { data := #[] }, .string { data := #[] }, .string { data := #[] }, .slice none 0 0] 25) := ⟨_, rfl⟩
  have E0 : Ext w V := by rw [hV]; exact ((Ext.refl w).alloc _).alloc _
  have HB0 : Hid (V.heap[w.heap.size]? = some (.cells #[.string a, .string b, .string c, .slice ao un.length ca] 25 (0, 0))) := hide (by rw [hV]; exact ((Ext.refl _).alloc _).kept (new_block w _))
  have HB1 : Hid (V.heap[w.heap.size + 1]? = some (.cells #[.string { data := #[] }, .string { data := #[] }, .string { data := #[] }, .slice none 0 0] 25 (0, 0))) := hide (by rw [hV]; have h := new_block (w.alloc (.cells #[.string a, .string b, .string c, .slice ao un.length ca] 25)) (.cells #[.string { data := #[] }, .string { data := #[] }, .string { data := #[] }, .slice none 0 0] 25); rw [show (w.alloc (.cells #[.string a, .string b, .string c, .slice ao un.length ca] 25)).heap.size = w.heap.size + 1 by simp] at h; exact h)
  have sz0 : w.heap.size + 1 < V.heap.size := lt_of_block (unhide HB1)
  have HW := hide hV
  have HE0 := hide E0
  clear hV E0
  go_enter Tryz.func31, Tryz.ntmps31
  go_wp2_with fail
  rw [← unhide HW]
  clear HW
  refine ((unhide hcA) _).mono ?_
  rintro e w2 ⟨v2, rs2, rfl, o2, E2⟩
  obtain ⟨a2, c2, rfl⟩ : ∃ a c, v2 = .slice a A.length c := by
    obtain ⟨_, ao, cc, e, _⟩ := o2.cls
    exact ⟨ao, cc, e⟩
  have H2 := hide o2.cls
  rw [unhide HNA] at H2 ⊢
  replace HB0 := hide (E2.kept (unhide HB0))
  replace HB1 := hide (E2.kept (unhide HB1))
  replace HE0 := hide ((unhide HE0).trans E2)
  have q1 : w2.cell? ⟨w.heap.size, 1, none⟩ = some (.string b) := cells_of (unhide HB0) 1 _ rfl
  have z2 := E2.size
  clear o2 E2 hcA
  go_wp2_with fail
  refine ((unhide hcB) _).mono ?_
  rintro e w3 ⟨v3, rs3, rfl, o3, E3⟩
  obtain ⟨a3, c3, rfl⟩ : ∃ a c, v3 = .slice a B.length c := by
    obtain ⟨_, ao, cc, e, _⟩ := o3.cls
    exact ⟨ao, cc, e⟩
  have H3 := hide o3.cls
  rw [unhide HNB] at H3 ⊢
  replace H2 := hide ((unhide H2).ext E3)
  replace HB0 := hide (E3.kept (unhide HB0))
  replace HB1 := hide (E3.kept (unhide HB1))
  replace HE0 := hide ((unhide HE0).trans E3)
  have z3 := E3.size
  clear o3 E3 hcB q1
  go_wp2_with fail
  refine ((unhide HWd) _ _ (unhide H3)).mono ?_
  rintro e w4 ⟨r, rfl, hwd, E4⟩
  have hrN := (unhide HWs) r hwd
  subst hrN
  replace HB0 := hide (E4.kept (unhide HB0))
  replace HB1 := hide (E4.kept (unhide HB1))
  replace HE0 := hide ((unhide HE0).trans E4)
  have z4 := E4.size
  clear hwd E4 HWd HWs
  have HMc := hide ((unhide HMv) w4 (unhide HE0))
  clear HMv H2 H3 HNA HNB
  go_wp2_with (first
    | (refine wpList_load_blk rfl 25 _ rfl (w.heap.size) rfl _ _ _ _ (unhide HB0) Tryz.underlying25 rfl infoL ?_))
  refine (unhide HMc).mono ?_
  rintro e w5 ⟨⟨v5, rfl, hl5⟩, E5⟩
  obtain ⟨ua, uc, rfl⟩ : ∃ ua uc, v5 = .slice ua un.length uc := by
    obtain ⟨x, y, e, _⟩ := hl5.reads
    exact ⟨x, y, e⟩
  have HL5 := hide hl5
  replace HB1 := hide (E5.kept (unhide HB1))
  replace HE0 := hide ((unhide HE0).trans E5)
  have HN := hide (heap_alloc_new w5 (.cells #[.string { data := #[] }, .string { data := #[] }, .string { data := #[] }, .slice none 0 0] 25))
  have hz5 : w.heap.size + 1 < w5.heap.size := lt_of_block (unhide HB1)
  clear HMc E5 hl5 HB0
  dsimp only
  go_wp2_with (first
    | (refine wpList_store_blk rfl 25 _ _ rfl rfl (w5.heap.size) rfl _ _ _ rfl (unhide HN) infoL rfl (by simp [Value.oneCell']) ?_; intro U hB hU; have hU1 := hU.ext ((Ext.refl w5).alloc _) (fun q hq => by omega); have HEU := hide hU1; have HBU := hide hB; have HB1s := hide (hU1.kept (unhide HB1)); clear hB hU hU1)
    | (refine wpList_load_blk rfl 25 _ rfl (w5.heap.size) rfl _ _ _ _ (unhide HBU) Tryz.underlying25 rfl infoL ?_)
    | (refine wpList_store_blk rfl 25 _ _ rfl rfl (w.heap.size + 1) rfl _ _ _ rfl (unhide HB1s) infoL rfl (by simp [Value.oneCell']) ?_; intro Z hy hf9; have HY := hide hy; have FY := hide hf9; clear hy hf9))
  have v0 : Z.cell? ⟨w.heap.size + 1, 0, none⟩ = some (.string XA) := cells_of (unhide HY) 0 _ rfl
  have v1 : Z.cell? ⟨w.heap.size + 1, 1, none⟩ = some (.string XB) := cells_of (unhide HY) 1 _ rfl
  have v2 : Z.cell? ⟨w.heap.size + 1, 2, none⟩ = some (.string c) := cells_of (unhide HY) 2 _ rfl
  have v3 : Z.cell? ⟨w.heap.size + 1, 3, none⟩ = some (.slice ua un.length uc) := cells_of (unhide HY) 3 _ rfl
  exact bodyPost_ret (v := .tuple #[.agg #[.string XA, .string XB, .string c, .slice ua un.length uc], .int .i64 1]) (by simp [results, Tryz.results31, go_sem, v0, v1, v2, v3]) rfl ⟨⟨_, rfl, (((unhide HL5).ext (unhide HEU)).fr (unhide FY) (fun g hg e9 => by have := ((unhide HL5).lt g hg).1; omega)).mono (by omega)⟩, (unhide FY).ext ((unhide HE0).trans (unhide HEU)) (fun q hq => by omega)⟩
end Go.Proofs.YtokjpnlmkecleaaGreatDoor

namespace Go.Proofs.YtokjpnlmkecleaaGreatDoor
open Go.RowKit

set_option linter.unusedSimpArgs false in
set_option maxRecDepth 10000 in
set_option maxHeartbeats 8000000 in
theorem l4Move_out (a b c : ByteArray) (v : Value) (un : List (ByteArray × ByteArray)) (w : World) (hv : LnAt w v un) (hn : un.length ≤ 50) (za : a.size ≤ 1048576) (zb : b.size ≤ 1048576) (N : Int) (hN : N < 0 ∨ ((cutC (baL a)).length : Int) + ((cutC (baL b)).length : Int) < N) :
    Calls Tryz.prog 65 #[.agg #[.string a, .string b, .string c, v], .int .i64 N] w fun e w' => LnO w' w.heap.size ⟨a, b, c, un, 2⟩ e ∧ Ext w w' := by
  obtain ⟨ic, hic, hc0, hc1, hc2⟩ := info_parts infoClu
  have infoL : (Tryz.prog.info? 25).map (·.size) = some 4 := by kernel_rfl
  have hcA := hide (fun W => l4Cut_any (baL a) (baL_bytes a) W (by rw [baL_len]; omega))
  have hcB := hide (fun W => l4Cut_any (baL b) (baL_bytes b) W (by rw [baL_len]; omega))
  rw [toBA_baL] at hcA hcB
  have lA := cutC_len (baL a)
  have lB := cutC_len (baL b)
  rw [baL_len] at lA lB
  obtain ⟨ao, ca, rfl, _, _⟩ := id hv
  have HC := hide (fun W (E : Ext w W) => l4Copy_any a b c (.slice ao un.length ca) un.length (lnT un) (lnH un) W (Row2At.ext hv E) (by omega))
  have HCU := hide ((cuts_one (baL a)).app (cuts_one (baL b)))
  rw [baL_len, baL_len] at HCU
  clear hv
  obtain ⟨A, hA⟩ : ∃ A, A = cutC (baL a) := ⟨_, rfl⟩
  obtain ⟨B, hB⟩ : ∃ B, B = cutC (baL b) := ⟨_, rfl⟩
  rw [← hA] at hcA lA HCU
  rw [← hB] at hcB lB HCU
  rw [← hA, ← hB] at hN
  have HXA := hide hA
  have HXB := hide hB
  clear hA hB
  obtain ⟨V, hV⟩ : ∃ V, V = (w.alloc (.cells #[.string a, .string b, .string c, .slice ao un.length ca] 25)).alloc (.cells #[.string { data := #[] }, .string { data := #[] }, .string { data := #[] }, .slice none 0 0] 25) := ⟨_, rfl⟩
  have E0 : Ext w V := by rw [hV]; exact ((Ext.refl w).alloc _).alloc _
  have HB0 : Hid (V.heap[w.heap.size]? = some (.cells #[.string a, .string b, .string c, .slice ao un.length ca] 25 (0, 0))) := hide (by rw [hV]; exact ((Ext.refl _).alloc _).kept (new_block w _))
  have HB1 : Hid (V.heap[w.heap.size + 1]? = some (.cells #[.string { data := #[] }, .string { data := #[] }, .string { data := #[] }, .slice none 0 0] 25 (0, 0))) := hide (by rw [hV]; have h := new_block (w.alloc (.cells #[.string a, .string b, .string c, .slice ao un.length ca] 25)) (.cells #[.string { data := #[] }, .string { data := #[] }, .string { data := #[] }, .slice none 0 0] 25); rw [show (w.alloc (.cells #[.string a, .string b, .string c, .slice ao un.length ca] 25)).heap.size = w.heap.size + 1 by simp] at h; exact h)
  have sz0 : w.heap.size + 1 < V.heap.size := lt_of_block (unhide HB1)
  have q0 : V.cell? ⟨w.heap.size, 0, none⟩ = some (.string a) ∧ V.cell? ⟨w.heap.size, 1, none⟩ = some (.string b) := ⟨cells_of (unhide HB0) 0 _ rfl, cells_of (unhide HB0) 1 _ rfl⟩
  have HW := hide hV
  have HE0 := hide E0
  clear hV E0
  go_enter Tryz.func65, Tryz.ntmps65
  go_wp2_with fail
  rw [← unhide HW]
  clear HW
  refine wp_region_held_drew (S := fun W => W.cell? ⟨w.heap.size, 0, none⟩ = some (.string a) ∧ W.cell? ⟨w.heap.size, 1, none⟩ = some (.string b)) (by kernel_rfl) q0 (fun hHeld => ?_)
  refine wpAnyH_take (i := 0) (v := ?_) rfl (by kernel_rfl) (by kernel_rfl) (by kernel_rfl) (fun _ _ _ h => h) (Or.inl ⟨by rfl, ?_⟩) (by assumption) ?_
  rotate_left
  · intro w' hSw; go_simp <;> with_reducible rfl
  simp only [Act.put, List.getElem_toArray, List.getElem_cons_succ, List.getElem_cons_zero, List.setIfInBounds_toArray, List.set_cons_zero, List.set_cons_succ]
  refine wpAnyH_take (i := 1) (v := ?_) rfl (by kernel_rfl) (by kernel_rfl) (by kernel_rfl) (fun _ _ _ h => h) (Or.inl ⟨by rfl, ?_⟩) (by assumption) ?_
  rotate_left
  · intro w' hSw; go_simp <;> with_reducible rfl
  simp only [Act.put, List.getElem_toArray, List.getElem_cons_succ, List.getElem_cons_zero, List.setIfInBounds_toArray, List.set_cons_zero, List.set_cons_succ]
  refine wpAnyH_take (i := 3) (v := ?_) rfl (by kernel_rfl) (by kernel_rfl) (by kernel_rfl) (fun _ _ _ h => h) (Or.inl ⟨by rfl, ?_⟩) (by assumption) ?_
  rotate_left
  · intro w' hSw; go_simp <;> with_reducible rfl
  simp only [Act.put, List.getElem_toArray, List.getElem_cons_succ, List.getElem_cons_zero, List.setIfInBounds_toArray, List.set_cons_zero, List.set_cons_succ]
  refine wpAnyH_take (i := 4) (v := ?_) rfl (by kernel_rfl) (by kernel_rfl) (by kernel_rfl) (fun _ _ _ h => h) (Or.inl ⟨by rfl, ?_⟩) (by assumption) ?_
  rotate_left
  · intro w' hSw; go_simp <;> with_reducible rfl
  simp only [Act.put, List.getElem_toArray, List.getElem_cons_succ, List.getElem_cons_zero, List.setIfInBounds_toArray, List.set_cons_zero, List.set_cons_succ]
  refine wpAnyH_ready (rs := [2]) (by kernel_rfl) (by simp) ?_
  refine AllReadyH.cons rfl (fun K hK => ?_) AllReadyH.nil
  go_simp
  go_wp2_with (go_at_call 35; refine ((unhide hcA) _).mono ?_; rintro e w2 ⟨v2, rs2, rfl, o2, F2⟩; have E2 : Ext V w2 := (by first | exact F2 | exact (Ext.refl V).drew.trans F2); have d0 := (show _ ∧ _ from ⟨E2.cell q0.1, E2.cell q0.2⟩); have O2 := hide o2; have HE2 := hide E2; clear o2 F2 E2)
  refine hK.out _ _ d0 (fun hHeld => ?_)
  clear hK K
  refine wpAnyH_ready (rs := [5]) (by kernel_rfl) (by simp) ?_
  refine AllReadyH.cons rfl (fun K hK => ?_) AllReadyH.nil
  go_simp
  go_wp2_with (go_at_call 35; refine ((unhide hcB) _).mono ?_; rintro e w3 ⟨v3, rs3, rfl, o3, F3⟩; have E3 : Ext V w3 := (by first | exact (unhide HE2).trans F3 | exact (unhide HE2).drew.trans F3); have f0 := (show _ ∧ _ from ⟨E3.cell q0.1, E3.cell q0.2⟩); have O3 := hide o3; have O23 := hide ((unhide O2).ext F3); have HE3 := hide E3; have hsz2 := (unhide HE2).size; have LT2 := hide (fun g (hg : Foot v2 rs2 A.length g) => ((unhide O2).lt hg)); clear o3 F3 E3)
  refine hK.out _ _ f0 (fun hHeld => ?_)
  clear hK K
  obtain ⟨ys3, oy3, ky3, src3⟩ := (unhide O3).ys
  obtain ⟨ys2, oy2, ky2, _⟩ := (unhide O23).ys
  have hsz3 := (unhide HE3).size
  refine wpAnyH_ready (rs := [6]) (by kernel_rfl) (by simp) ?_
  refine AllReadyH.cons rfl (fun K hK => ?_) AllReadyH.nil
  refine wp_app _ _ 64 rfl V.heap.size 93 ic (.agg #[.slice none 0 0, .int .i64 0]) 2 32 Tryz.underlying64 hic hc0 hc1 hc2 rfl (by decide) v2 A.length ys2 rfl oy2 v3 B.length ys3 rfl src3 (by unfold maxLen; omega) (by omega) (by omega) ?_
  intro v4 w4 o4 G4 _
  have E4 := (unhide HE3).grown G4 (fun q hq => (oy2.lt q hq).1)
  have k0 : w4.cell? ⟨w.heap.size, 0, none⟩ = some (.string a) ∧ w4.cell? ⟨w.heap.size, 1, none⟩ = some (.string b) := ⟨E4.cell q0.1, E4.cell q0.2⟩
  have O4 := hide (OwnCls.append (unhide O23) (unhide O3) hsz2 (fun g hg => ((unhide LT2) g hg).2) oy2 ky2 ky3 o4 G4)
  obtain ⟨a4, c4, rfl⟩ := owns_ln o4
  have hc4 : A.length + B.length ≤ c4 := by
    obtain ⟨_, _, _, e9, h9, _⟩ := (unhide O4).cls
    obtain ⟨_, _, rfl⟩ := Value.slice.inj e9
    rw [List.length_append] at h9
    exact h9
  have HE4 := hide E4
  refine hK.out _ _ k0 (fun hHeld => ?_)
  clear hK K o4 G4 E4 oy3 ky3 src3 oy2 ky2
  simp only [Act.put, List.getElem_toArray, List.getElem_cons_succ, List.getElem_cons_zero, List.setIfInBounds_toArray, List.set_cons_zero, List.set_cons_succ]
  refine wpAnyH_take (i := 7) (v := ?_) rfl (by kernel_rfl) (by kernel_rfl) (by kernel_rfl) (fun _ _ _ h => h) (Or.inl ⟨by rfl, ?_⟩) (by assumption) ?_
  rotate_left
  · intro w' hSw; go_simp <;> with_reducible rfl
  simp only [Act.put, List.getElem_toArray, List.getElem_cons_succ, List.getElem_cons_zero, List.setIfInBounds_toArray, List.set_cons_zero, List.set_cons_succ]
  refine wpAnyH_done (by kernel_rfl) ?_ _
  clear HE2 HE3 O2 O3 O23 LT2 d0 f0
  have HB4 := hide ((unhide HE4).kept (unhide HB0))
  have HB14 := hide ((unhide HE4).kept (unhide HB1))
  have HEw := hide ((unhide HE0).trans (unhide HE4))
  have hs4 := (unhide HE4).size
  have HCc := hide ((unhide HC) w4 (unhide HEw))
  clear HB0 HB1 q0 hcB HC
  go_wp2_with (first
    | (refine wpList_load_blk rfl 25 _ rfl (w.heap.size) rfl _ _ _ _ (unhide HB4) Tryz.underlying25 rfl infoL ?_))
  refine (unhide HCc).mono ?_
  rintro e w5 ⟨ua, uc, rfl, HO, E5⟩
  have HN := hide (heap_alloc_new w5 (.cells #[.string { data := #[] }, .string { data := #[] }, .string { data := #[] }, .slice none 0 0] 25))
  have hs5 := E5.size
  replace HB4 := hide (E5.kept (unhide HB4))
  replace HB14 := hide (E5.kept (unhide HB14))
  have O5 := hide ((unhide O4).ext E5)
  have HE5 := hide ((unhide HEw).trans E5)
  obtain ⟨nA, hnA⟩ : ∃ n, A.length = n := ⟨_, rfl⟩
  obtain ⟨nB, hnB⟩ : ∃ n, B.length = n := ⟨_, rfl⟩
  have HNA := hide hnA
  have HNB := hide hnB
  rw [hnA] at lA hc4 hN ⊢
  rw [hnB] at lB hc4 hN ⊢
  rw [hnA, hnB] at O5
  obtain ⟨nAB, hAB⟩ : ∃ n, nA + nB = n := ⟨_, rfl⟩
  rw [hAB] at O5 hc4 ⊢
  have HAB := hide hAB
  have HCC := hcA
  obtain ⟨G, hG⟩ : ∃ G, G = w5.heap.size := ⟨_, rfl⟩
  have HG := hide hG
  clear HCc E5 HE4 HEw hcA O4 hnA hnB hAB k0 hG
  go_wp2_with (first
    | (refine wpList_store_blk rfl 25 _ _ rfl rfl (w5.heap.size) rfl _ _ _ rfl (unhide HN) infoL rfl (by simp [Value.oneCell']) ?_; intro U hB hU; have hU1 := hU.ext ((Ext.refl w5).alloc _) (fun q hq => by omega); rw [← unhide HG] at hB; have HEU := hide hU1; have HBU := hide hB; have HB1U := hide (hU1.kept (unhide HB14)); have HB0U := hide (hU1.kept (unhide HB4)); have c0 := cells_of (hU1.kept (unhide HB4)) 0 _ rfl; have hsU := hU1.size; clear hB hU hU1; refine StopQ.intro ?_))
  show wpList _ _ _ _ _ _
  rw [← unhide HG]
  have HOU := hide ((unhide HO).ext (unhide HEU))
  have HEE := hide ((unhide HE5).trans (unhide HEU))
  have hGw : w.heap.size + 1 < G := by have := unhide HG; omega
  have hAB := unhide HAB
  have HBs := HBU
  have HB1s := HB1U
  rcases hN with hN | hN
  · have h9 := hN
    clear hAB
    go_wp2_with (first
      | (refine wpList_load_blk rfl 25 _ rfl G rfl _ _ _ _ (unhide HBs) Tryz.underlying25 rfl infoL ?_)
      | (refine wpList_store_blk rfl 25 _ _ rfl rfl (w.heap.size + 1) rfl _ _ _ rfl (unhide HB1s) infoL rfl (by simp [Value.oneCell']) ?_; intro Z hy hf9; have HY := hide hy; have FY := hide hf9; clear hy hf9))
    have v0 : Z.cell? ⟨w.heap.size + 1, 0, none⟩ = some (.string a) := cells_of (unhide HY) 0 _ rfl
    have v1 : Z.cell? ⟨w.heap.size + 1, 1, none⟩ = some (.string b) := cells_of (unhide HY) 1 _ rfl
    have v2 : Z.cell? ⟨w.heap.size + 1, 2, none⟩ = some (.string c) := cells_of (unhide HY) 2 _ rfl
    have v3 : Z.cell? ⟨w.heap.size + 1, 3, none⟩ = some (.slice ua un.length uc) := cells_of (unhide HY) 3 _ rfl
    exact bodyPost_ret (v := .tuple #[.agg #[.string a, .string b, .string c, .slice ua un.length uc], .int .i64 2]) (by simp [results, Tryz.results65, go_sem, v0, v1, v2, v3]) rfl (⟨⟨_, rfl, ((unhide HOU).fr (unhide FY) (fun g hg e9 => by have := ((unhide HO).lt g hg).1; omega)).mono (by omega)⟩, (unhide FY).ext (unhide HEE) (fun q hq => by omega)⟩)
  · have h8 : ¬ N < 0 := by omega
    have h9 : (nAB : Int) < N := by omega
    clear hAB
    go_wp2_with (first
      | (refine wpList_load_blk rfl 25 _ rfl G rfl _ _ _ _ (unhide HBs) Tryz.underlying25 rfl infoL ?_)
      | (refine wpList_store_blk rfl 25 _ _ rfl rfl (w.heap.size + 1) rfl _ _ _ rfl (unhide HB1s) infoL rfl (by simp [Value.oneCell']) ?_; intro Z hy hf9; have HY := hide hy; have FY := hide hf9; clear hy hf9))
    have v0 : Z.cell? ⟨w.heap.size + 1, 0, none⟩ = some (.string a) := cells_of (unhide HY) 0 _ rfl
    have v1 : Z.cell? ⟨w.heap.size + 1, 1, none⟩ = some (.string b) := cells_of (unhide HY) 1 _ rfl
    have v2 : Z.cell? ⟨w.heap.size + 1, 2, none⟩ = some (.string c) := cells_of (unhide HY) 2 _ rfl
    have v3 : Z.cell? ⟨w.heap.size + 1, 3, none⟩ = some (.slice ua un.length uc) := cells_of (unhide HY) 3 _ rfl
    exact bodyPost_ret (v := .tuple #[.agg #[.string a, .string b, .string c, .slice ua un.length uc], .int .i64 2]) (by simp [results, Tryz.results65, go_sem, v0, v1, v2, v3]) rfl (⟨⟨_, rfl, ((unhide HOU).fr (unhide FY) (fun g hg e9 => by have := ((unhide HO).lt g hg).1; omega)).mono (by omega)⟩, (unhide FY).ext (unhide HEE) (fun q hq => by omega)⟩)
end Go.Proofs.YtokjpnlmkecleaaGreatDoor

namespace Go.Proofs.YtokjpnlmkecleaaGreatDoor
open Go.RowKit

set_option linter.unusedSimpArgs false in
set_option maxRecDepth 10000 in
set_option maxHeartbeats 8000000 in
theorem l4Move_stay (a b c : ByteArray) (v : Value) (un : List (ByteArray × ByteArray)) (w : World) (hv : LnAt w v un) (hn : un.length ≤ 50) (za : a.size ≤ 1048576) (zb : b.size ≤ 1048576) (N : Int) (hN : N = ((cutC (baL a)).length : Int) ∧ 0 ≤ (cutC (baL b)).length) :
    Calls Tryz.prog 65 #[.agg #[.string a, .string b, .string c, v], .int .i64 N] w fun e w' => LnO w' w.heap.size ⟨a, b, c, un, 2⟩ e ∧ Ext w w' := by
  obtain ⟨ic, hic, hc0, hc1, hc2⟩ := info_parts infoClu
  have infoL : (Tryz.prog.info? 25).map (·.size) = some 4 := by kernel_rfl
  have hcA := hide (fun W => l4Cut_any (baL a) (baL_bytes a) W (by rw [baL_len]; omega))
  have hcB := hide (fun W => l4Cut_any (baL b) (baL_bytes b) W (by rw [baL_len]; omega))
  rw [toBA_baL] at hcA hcB
  have lA := cutC_len (baL a)
  have lB := cutC_len (baL b)
  rw [baL_len] at lA lB
  obtain ⟨ao, ca, rfl, _, _⟩ := id hv
  have HC := hide (fun W (E : Ext w W) => l4Copy_any a b c (.slice ao un.length ca) un.length (lnT un) (lnH un) W (Row2At.ext hv E) (by omega))
  have HCU := hide ((cuts_one (baL a)).app (cuts_one (baL b)))
  rw [baL_len, baL_len] at HCU
  clear hv
  obtain ⟨A, hA⟩ : ∃ A, A = cutC (baL a) := ⟨_, rfl⟩
  obtain ⟨B, hB⟩ : ∃ B, B = cutC (baL b) := ⟨_, rfl⟩
  rw [← hA] at hcA lA HCU
  rw [← hB] at hcB lB HCU
  rw [← hA, ← hB] at hN
  have HXA := hide hA
  have HXB := hide hB
  clear hA hB
  obtain ⟨V, hV⟩ : ∃ V, V = (w.alloc (.cells #[.string a, .string b, .string c, .slice ao un.length ca] 25)).alloc (.cells #[.string { data := #[] }, .string { data := #[] }, .string { data := #[] }, .slice none 0 0] 25) := ⟨_, rfl⟩
  have E0 : Ext w V := by rw [hV]; exact ((Ext.refl w).alloc _).alloc _
  have HB0 : Hid (V.heap[w.heap.size]? = some (.cells #[.string a, .string b, .string c, .slice ao un.length ca] 25 (0, 0))) := hide (by rw [hV]; exact ((Ext.refl _).alloc _).kept (new_block w _))
  have HB1 : Hid (V.heap[w.heap.size + 1]? = some (.cells #[.string { data := #[] }, .string { data := #[] }, .string { data := #[] }, .slice none 0 0] 25 (0, 0))) := hide (by rw [hV]; have h := new_block (w.alloc (.cells #[.string a, .string b, .string c, .slice ao un.length ca] 25)) (.cells #[.string { data := #[] }, .string { data := #[] }, .string { data := #[] }, .slice none 0 0] 25); rw [show (w.alloc (.cells #[.string a, .string b, .string c, .slice ao un.length ca] 25)).heap.size = w.heap.size + 1 by simp] at h; exact h)
  have sz0 : w.heap.size + 1 < V.heap.size := lt_of_block (unhide HB1)
  have q0 : V.cell? ⟨w.heap.size, 0, none⟩ = some (.string a) ∧ V.cell? ⟨w.heap.size, 1, none⟩ = some (.string b) := ⟨cells_of (unhide HB0) 0 _ rfl, cells_of (unhide HB0) 1 _ rfl⟩
  have HW := hide hV
  have HE0 := hide E0
  clear hV E0
  go_enter Tryz.func65, Tryz.ntmps65
  go_wp2_with fail
  rw [← unhide HW]
  clear HW
  refine wp_region_held_drew (S := fun W => W.cell? ⟨w.heap.size, 0, none⟩ = some (.string a) ∧ W.cell? ⟨w.heap.size, 1, none⟩ = some (.string b)) (by kernel_rfl) q0 (fun hHeld => ?_)
  refine wpAnyH_take (i := 0) (v := ?_) rfl (by kernel_rfl) (by kernel_rfl) (by kernel_rfl) (fun _ _ _ h => h) (Or.inl ⟨by rfl, ?_⟩) (by assumption) ?_
  rotate_left
  · intro w' hSw; go_simp <;> with_reducible rfl
  simp only [Act.put, List.getElem_toArray, List.getElem_cons_succ, List.getElem_cons_zero, List.setIfInBounds_toArray, List.set_cons_zero, List.set_cons_succ]
  refine wpAnyH_take (i := 1) (v := ?_) rfl (by kernel_rfl) (by kernel_rfl) (by kernel_rfl) (fun _ _ _ h => h) (Or.inl ⟨by rfl, ?_⟩) (by assumption) ?_
  rotate_left
  · intro w' hSw; go_simp <;> with_reducible rfl
  simp only [Act.put, List.getElem_toArray, List.getElem_cons_succ, List.getElem_cons_zero, List.setIfInBounds_toArray, List.set_cons_zero, List.set_cons_succ]
  refine wpAnyH_take (i := 3) (v := ?_) rfl (by kernel_rfl) (by kernel_rfl) (by kernel_rfl) (fun _ _ _ h => h) (Or.inl ⟨by rfl, ?_⟩) (by assumption) ?_
  rotate_left
  · intro w' hSw; go_simp <;> with_reducible rfl
  simp only [Act.put, List.getElem_toArray, List.getElem_cons_succ, List.getElem_cons_zero, List.setIfInBounds_toArray, List.set_cons_zero, List.set_cons_succ]
  refine wpAnyH_take (i := 4) (v := ?_) rfl (by kernel_rfl) (by kernel_rfl) (by kernel_rfl) (fun _ _ _ h => h) (Or.inl ⟨by rfl, ?_⟩) (by assumption) ?_
  rotate_left
  · intro w' hSw; go_simp <;> with_reducible rfl
  simp only [Act.put, List.getElem_toArray, List.getElem_cons_succ, List.getElem_cons_zero, List.setIfInBounds_toArray, List.set_cons_zero, List.set_cons_succ]
  refine wpAnyH_ready (rs := [2]) (by kernel_rfl) (by simp) ?_
  refine AllReadyH.cons rfl (fun K hK => ?_) AllReadyH.nil
  go_simp
  go_wp2_with (go_at_call 35; refine ((unhide hcA) _).mono ?_; rintro e w2 ⟨v2, rs2, rfl, o2, F2⟩; have E2 : Ext V w2 := (by first | exact F2 | exact (Ext.refl V).drew.trans F2); have d0 := (show _ ∧ _ from ⟨E2.cell q0.1, E2.cell q0.2⟩); have O2 := hide o2; have HE2 := hide E2; clear o2 F2 E2)
  refine hK.out _ _ d0 (fun hHeld => ?_)
  clear hK K
  refine wpAnyH_ready (rs := [5]) (by kernel_rfl) (by simp) ?_
  refine AllReadyH.cons rfl (fun K hK => ?_) AllReadyH.nil
  go_simp
  go_wp2_with (go_at_call 35; refine ((unhide hcB) _).mono ?_; rintro e w3 ⟨v3, rs3, rfl, o3, F3⟩; have E3 : Ext V w3 := (by first | exact (unhide HE2).trans F3 | exact (unhide HE2).drew.trans F3); have f0 := (show _ ∧ _ from ⟨E3.cell q0.1, E3.cell q0.2⟩); have O3 := hide o3; have O23 := hide ((unhide O2).ext F3); have HE3 := hide E3; have hsz2 := (unhide HE2).size; have LT2 := hide (fun g (hg : Foot v2 rs2 A.length g) => ((unhide O2).lt hg)); clear o3 F3 E3)
  refine hK.out _ _ f0 (fun hHeld => ?_)
  clear hK K
  obtain ⟨ys3, oy3, ky3, src3⟩ := (unhide O3).ys
  obtain ⟨ys2, oy2, ky2, _⟩ := (unhide O23).ys
  have hsz3 := (unhide HE3).size
  refine wpAnyH_ready (rs := [6]) (by kernel_rfl) (by simp) ?_
  refine AllReadyH.cons rfl (fun K hK => ?_) AllReadyH.nil
  refine wp_app _ _ 64 rfl V.heap.size 93 ic (.agg #[.slice none 0 0, .int .i64 0]) 2 32 Tryz.underlying64 hic hc0 hc1 hc2 rfl (by decide) v2 A.length ys2 rfl oy2 v3 B.length ys3 rfl src3 (by unfold maxLen; omega) (by omega) (by omega) ?_
  intro v4 w4 o4 G4 _
  have E4 := (unhide HE3).grown G4 (fun q hq => (oy2.lt q hq).1)
  have k0 : w4.cell? ⟨w.heap.size, 0, none⟩ = some (.string a) ∧ w4.cell? ⟨w.heap.size, 1, none⟩ = some (.string b) := ⟨E4.cell q0.1, E4.cell q0.2⟩
  have O4 := hide (OwnCls.append (unhide O23) (unhide O3) hsz2 (fun g hg => ((unhide LT2) g hg).2) oy2 ky2 ky3 o4 G4)
  obtain ⟨a4, c4, rfl⟩ := owns_ln o4
  have hc4 : A.length + B.length ≤ c4 := by
    obtain ⟨_, _, _, e9, h9, _⟩ := (unhide O4).cls
    obtain ⟨_, _, rfl⟩ := Value.slice.inj e9
    rw [List.length_append] at h9
    exact h9
  have HE4 := hide E4
  refine hK.out _ _ k0 (fun hHeld => ?_)
  clear hK K o4 G4 E4 oy3 ky3 src3 oy2 ky2
  simp only [Act.put, List.getElem_toArray, List.getElem_cons_succ, List.getElem_cons_zero, List.setIfInBounds_toArray, List.set_cons_zero, List.set_cons_succ]
  refine wpAnyH_take (i := 7) (v := ?_) rfl (by kernel_rfl) (by kernel_rfl) (by kernel_rfl) (fun _ _ _ h => h) (Or.inl ⟨by rfl, ?_⟩) (by assumption) ?_
  rotate_left
  · intro w' hSw; go_simp <;> with_reducible rfl
  simp only [Act.put, List.getElem_toArray, List.getElem_cons_succ, List.getElem_cons_zero, List.setIfInBounds_toArray, List.set_cons_zero, List.set_cons_succ]
  refine wpAnyH_done (by kernel_rfl) ?_ _
  clear HE2 HE3 O2 O3 O23 LT2 d0 f0
  have HB4 := hide ((unhide HE4).kept (unhide HB0))
  have HB14 := hide ((unhide HE4).kept (unhide HB1))
  have HEw := hide ((unhide HE0).trans (unhide HE4))
  have hs4 := (unhide HE4).size
  have HCc := hide ((unhide HC) w4 (unhide HEw))
  clear HB0 HB1 q0 hcB HC
  go_wp2_with (first
    | (refine wpList_load_blk rfl 25 _ rfl (w.heap.size) rfl _ _ _ _ (unhide HB4) Tryz.underlying25 rfl infoL ?_))
  refine (unhide HCc).mono ?_
  rintro e w5 ⟨ua, uc, rfl, HO, E5⟩
  have HN := hide (heap_alloc_new w5 (.cells #[.string { data := #[] }, .string { data := #[] }, .string { data := #[] }, .slice none 0 0] 25))
  have hs5 := E5.size
  replace HB4 := hide (E5.kept (unhide HB4))
  replace HB14 := hide (E5.kept (unhide HB14))
  have O5 := hide ((unhide O4).ext E5)
  have HE5 := hide ((unhide HEw).trans E5)
  obtain ⟨nA, hnA⟩ : ∃ n, A.length = n := ⟨_, rfl⟩
  obtain ⟨nB, hnB⟩ : ∃ n, B.length = n := ⟨_, rfl⟩
  have HNA := hide hnA
  have HNB := hide hnB
  rw [hnA] at lA hc4 hN ⊢
  rw [hnB] at lB hc4 hN ⊢
  rw [hnA, hnB] at O5
  obtain ⟨nAB, hAB⟩ : ∃ n, nA + nB = n := ⟨_, rfl⟩
  rw [hAB] at O5 hc4 ⊢
  have HAB := hide hAB
  have HCC := hcA
  obtain ⟨G, hG⟩ : ∃ G, G = w5.heap.size := ⟨_, rfl⟩
  have HG := hide hG
  clear HCc E5 HE4 HEw hcA O4 hnA hnB hAB k0 hG
  go_wp2_with (first
    | (refine wpList_store_blk rfl 25 _ _ rfl rfl (w5.heap.size) rfl _ _ _ rfl (unhide HN) infoL rfl (by simp [Value.oneCell']) ?_; intro U hB hU; have hU1 := hU.ext ((Ext.refl w5).alloc _) (fun q hq => by omega); rw [← unhide HG] at hB; have HEU := hide hU1; have HBU := hide hB; have HB1U := hide (hU1.kept (unhide HB14)); have HB0U := hide (hU1.kept (unhide HB4)); have c0 := cells_of (hU1.kept (unhide HB4)) 0 _ rfl; have hsU := hU1.size; clear hB hU hU1; refine StopQ.intro ?_))
  show wpList _ _ _ _ _ _
  rw [← unhide HG]
  have HOU := hide ((unhide HO).ext (unhide HEU))
  have HEE := hide ((unhide HE5).trans (unhide HEU))
  have hGw : w.heap.size + 1 < G := by have := unhide HG; omega
  have hAB := unhide HAB
  have h8 : ¬ (nA : Int) < 0 := by omega
  have h9 : ¬ (nAB : Int) < (nA : Int) := by omega
  obtain ⟨rfl, -⟩ := hN
  clear hAB
  go_wp2_with fail
  refine ((unhide HCC) _).mono ?_
  rintro e w6 ⟨v6, rs6, rfl, o6, E6⟩
  obtain ⟨a6, c6, rfl⟩ : ∃ a c, v6 = .slice a A.length c := by
    obtain ⟨_, ao, cc, e, _⟩ := o6.cls
    exact ⟨ao, cc, e⟩
  rw [unhide HNA]
  replace HBU := hide (E6.kept (unhide HBU))
  replace HB1U := hide (E6.kept (unhide HB1U))
  replace HOU := hide ((unhide HOU).ext E6)
  replace HEE := hide ((unhide HEE).trans E6)
  have O6 := hide ((unhide O5).ext ((unhide HEU).trans E6))
  clear o6 E6 c0
  have HBs := HBU
  have HB1s := HB1U
  go_wp2_with (first
    | (refine wpList_load_blk rfl 25 _ rfl G rfl _ _ _ _ (unhide HBs) Tryz.underlying25 rfl infoL ?_)
    | (refine wpList_store_blk rfl 25 _ _ rfl rfl (w.heap.size + 1) rfl _ _ _ rfl (unhide HB1s) infoL rfl (by simp [Value.oneCell']) ?_; intro Z hy hf9; have HY := hide hy; have FY := hide hf9; clear hy hf9))
  have v0 : Z.cell? ⟨w.heap.size + 1, 0, none⟩ = some (.string a) := cells_of (unhide HY) 0 _ rfl
  have v1 : Z.cell? ⟨w.heap.size + 1, 1, none⟩ = some (.string b) := cells_of (unhide HY) 1 _ rfl
  have v2 : Z.cell? ⟨w.heap.size + 1, 2, none⟩ = some (.string c) := cells_of (unhide HY) 2 _ rfl
  have v3 : Z.cell? ⟨w.heap.size + 1, 3, none⟩ = some (.slice ua un.length uc) := cells_of (unhide HY) 3 _ rfl
  exact bodyPost_ret (v := .tuple #[.agg #[.string a, .string b, .string c, .slice ua un.length uc], .int .i64 2]) (by simp [results, Tryz.results65, go_sem, v0, v1, v2, v3]) rfl (⟨⟨_, rfl, ((unhide HOU).fr (unhide FY) (fun g hg e9 => by have := ((unhide HO).lt g hg).1; omega)).mono (by omega)⟩, (unhide FY).ext (unhide HEE) (fun q hq => by omega)⟩)
end Go.Proofs.YtokjpnlmkecleaaGreatDoor
