import Derived.Test.YtbieoijeilhadaaDoorGap
import Derived.Test.YtbieoijeilhadaaDoorEdK
import Derived.Deep.RegionHeldLaw
import Derived.Deep.RegionHeld3
namespace Go.Proofs.YtbieoijeilhadaaDoor
open Go.RowKit
set_option maxRecDepth 10000 in
set_option maxHeartbeats 8000000 in
theorem l4Moved_19_no (a b c : ByteArray) (v : Value) (un : List (ByteArray × ByteArray)) (w : World) (hv : LnAt w v un) (za : a.size ≤ 1048576) (zb : b.size ≤ 1048576) (XA XB : ByteArray) (N : Int) (hw : IntKind.i64.wrap (((cutC (baL a)).length : Int) + (wdR (cutC (baL b)) : Int)) = N ∧ ¬ N = -2) (HM : ∀ W u, Ext w W → LnAt W u un → Calls Tryd.prog 135 #[.agg #[.string a, .string b, .string c, u], .int .i64 N] W fun e w' => LnO w' W.heap.size ⟨XA, XB, c, un, 2⟩ e ∧ Ext W w') :
    Calls Tryd.prog 124 #[.agg #[.string a, .string b, .string c, v], .int .i64 19] w fun e w' => LnO w' w.heap.size ⟨XA, XB, c, un, 2⟩ e ∧ Ext w w' := by
  have infoL : (Tryd.prog.info? 46).map (·.size) = some 4 := by kernel_rfl
  have hcA := hide (fun W => l4Cut_any (baL a) (baL_bytes a) W (by rw [baL_len]; omega))
  have hcB := hide (fun W => l4Cut_any (baL b) (baL_bytes b) W (by rw [baL_len]; omega))
  rw [toBA_baL] at hcA hcB
  have lA := cutC_len (baL a)
  have lB := cutC_len (baL b)
  rw [baL_len] at lA lB
  obtain ⟨ao, ca, rfl, _, _⟩ := id hv
  have HMv := hide (fun W (E : Ext w W) => HM W _ E (hv.ext E))
  have HWd := hide (fun v W (hv : ClsAt W v (cutC (baL b))) => l4WordRight_any v (cutC (baL b)) W hv (by omega))
  obtain ⟨hw1, hw2⟩ := hw
  clear hv HM
  obtain ⟨A, hA⟩ : ∃ A, A = cutC (baL a) := ⟨_, rfl⟩
  obtain ⟨B, hB⟩ : ∃ B, B = cutC (baL b) := ⟨_, rfl⟩
  rw [← hA] at hcA lA hw1
  rw [← hB] at hcB lB HWd hw1
  obtain ⟨nA, hnA⟩ : ∃ n, A.length = n := ⟨_, rfl⟩
  obtain ⟨nB, hnB⟩ : ∃ n, B.length = n := ⟨_, rfl⟩
  rw [hnA] at hw1
  have HWs : Hid (∀ r : Nat, Wd (fun j => spB (cR B j)) B.length r → r = wdR B) := hide (fun r h => (wdN_eq h).symm)
  obtain ⟨R, hR⟩ : ∃ R, wdR B = R := ⟨_, rfl⟩
  rw [hR] at hw1 HWs
  clear hR
  have HNA := hide hnA
  have HNB := hide hnB
  clear hA hB hnA hnB
  obtain ⟨V, hV⟩ : ∃ V, V = (w.alloc (.cells #[.string a, .string b, .string c, .slice ao un.length ca] 46)).alloc (.cells #[.string { data := #[] }, .string { data := #[] }, .string { data := #[] }, .slice none 0 0] 46) := ⟨_, rfl⟩
  have E0 : Ext w V := by rw [hV]; exact ((Ext.refl w).alloc _).alloc _
  have HB0 : Hid (V.heap[w.heap.size]? = some (.cells #[.string a, .string b, .string c, .slice ao un.length ca] 46 (0, 0))) := hide (by rw [hV]; exact ((Ext.refl _).alloc _).kept (new_block w _))
  have HB1 : Hid (V.heap[w.heap.size + 1]? = some (.cells #[.string { data := #[] }, .string { data := #[] }, .string { data := #[] }, .slice none 0 0] 46 (0, 0))) := hide (by rw [hV]; have h := new_block (w.alloc (.cells #[.string a, .string b, .string c, .slice ao un.length ca] 46)) (.cells #[.string { data := #[] }, .string { data := #[] }, .string { data := #[] }, .slice none 0 0] 46); rw [show (w.alloc (.cells #[.string a, .string b, .string c, .slice ao un.length ca] 46)).heap.size = w.heap.size + 1 by simp] at h; exact h)
  have sz0 : w.heap.size + 1 < V.heap.size := lt_of_block (unhide HB1)
  have HW := hide hV
  have HE0 := hide E0
  clear hV E0
  go_enter Tryd.func124, Tryd.ntmps124
  go_wp2_with fail
  rw [← unhide HW]
  clear HW
  refine ((unhide hcA) _).mono ?_
  rintro e w2 ⟨v2, rs2, rfl, o2, E2⟩
  obtain ⟨a2, c2, rfl⟩ : ∃ a c, v2 = .slice a A.length c := by
    obtain ⟨_, ao, cc, e, _⟩ := o2.cls
    exact ⟨ao, cc, e⟩
  have H2 := hide o2.cls
  rw [unhide HNA] at H2 ⊢
  replace HB0 := hide (E2.kept (unhide HB0))
  replace HB1 := hide (E2.kept (unhide HB1))
  replace HE0 := hide ((unhide HE0).trans E2)
  have q1 : w2.cell? ⟨w.heap.size, 1, none⟩ = some (.string b) := cells_of (unhide HB0) 1 _ rfl
  have z2 := E2.size
  clear o2 E2 hcA
  go_wp2_with fail
  refine ((unhide hcB) _).mono ?_
  rintro e w3 ⟨v3, rs3, rfl, o3, E3⟩
  obtain ⟨a3, c3, rfl⟩ : ∃ a c, v3 = .slice a B.length c := by
    obtain ⟨_, ao, cc, e, _⟩ := o3.cls
    exact ⟨ao, cc, e⟩
  have H3 := hide o3.cls
  rw [unhide HNB] at H3 ⊢
  replace H2 := hide ((unhide H2).ext E3)
  replace HB0 := hide (E3.kept (unhide HB0))
  replace HB1 := hide (E3.kept (unhide HB1))
  replace HE0 := hide ((unhide HE0).trans E3)
  have z3 := E3.size
  clear o3 E3 hcB q1
  go_wp2_with fail
  refine ((unhide HWd) _ _ (unhide H3)).mono ?_
  rintro e w4 ⟨r, rfl, hwd, E4⟩
  have hrN := (unhide HWs) r hwd
  subst hrN
  replace HB0 := hide (E4.kept (unhide HB0))
  replace HB1 := hide (E4.kept (unhide HB1))
  replace HE0 := hide ((unhide HE0).trans E4)
  have z4 := E4.size
  clear hwd E4 HWd HWs
  have HMc := hide ((unhide HMv) w4 (unhide HE0))
  clear HMv H2 H3 HNA HNB
  go_wp2_with (first
    | (refine wpList_load_blk rfl 46 _ rfl (w.heap.size) rfl _ _ _ _ (unhide HB0) Tryd.underlying46 rfl infoL ?_))
  refine (unhide HMc).mono ?_
  rintro e w5 ⟨⟨v5, rfl, hl5⟩, E5⟩
  obtain ⟨ua, uc, rfl⟩ : ∃ ua uc, v5 = .slice ua un.length uc := by
    obtain ⟨x, y, e, _⟩ := hl5.reads
    exact ⟨x, y, e⟩
  have HL5 := hide hl5
  replace HB1 := hide (E5.kept (unhide HB1))
  replace HE0 := hide ((unhide HE0).trans E5)
  have HN := hide (heap_alloc_new w5 (.cells #[.string { data := #[] }, .string { data := #[] }, .string { data := #[] }, .slice none 0 0] 46))
  have hz5 : w.heap.size + 1 < w5.heap.size := lt_of_block (unhide HB1)
  clear HMc E5 hl5 HB0
  dsimp only
  go_wp2_with (first
    | (refine wpList_store_blk rfl 46 _ _ rfl rfl (w5.heap.size) rfl _ _ _ rfl (unhide HN) infoL rfl (by simp [Value.oneCell']) ?_; intro U hB hU; have hU1 := hU.ext ((Ext.refl w5).alloc _) (fun q hq => by omega); have HEU := hide hU1; have HBU := hide hB; have HB1s := hide (hU1.kept (unhide HB1)); clear hB hU hU1)
    | (refine wpList_load_blk rfl 46 _ rfl (w5.heap.size) rfl _ _ _ _ (unhide HBU) Tryd.underlying46 rfl infoL ?_)
    | (refine wpList_store_blk rfl 46 _ _ rfl rfl (w.heap.size + 1) rfl _ _ _ rfl (unhide HB1s) infoL rfl (by simp [Value.oneCell']) ?_; intro Z hy hf9; have HY := hide hy; have FY := hide hf9; clear hy hf9))
  have v0 : Z.cell? ⟨w.heap.size + 1, 0, none⟩ = some (.string XA) := cells_of (unhide HY) 0 _ rfl
  have v1 : Z.cell? ⟨w.heap.size + 1, 1, none⟩ = some (.string XB) := cells_of (unhide HY) 1 _ rfl
  have v2 : Z.cell? ⟨w.heap.size + 1, 2, none⟩ = some (.string c) := cells_of (unhide HY) 2 _ rfl
  have v3 : Z.cell? ⟨w.heap.size + 1, 3, none⟩ = some (.slice ua un.length uc) := cells_of (unhide HY) 3 _ rfl
  exact bodyPost_ret (v := .tuple #[.agg #[.string XA, .string XB, .string c, .slice ua un.length uc], .int .i64 2]) (by simp [results, Tryd.results124, go_sem, v0, v1, v2, v3]) rfl ⟨⟨_, rfl, (((unhide HL5).ext (unhide HEU)).fr (unhide FY) (fun g hg e9 => by have := ((unhide HL5).lt g hg).1; omega)).mono (by omega)⟩, (unhide FY).ext ((unhide HE0).trans (unhide HEU)) (fun q hq => by omega)⟩
set_option maxRecDepth 10000 in
set_option maxHeartbeats 8000000 in
theorem l4Moved_19_yes (a b c : ByteArray) (v : Value) (un : List (ByteArray × ByteArray)) (w : World) (hv : LnAt w v un) (za : a.size ≤ 1048576) (zb : b.size ≤ 1048576) (XA XB : ByteArray) (N : Int) (hw : IntKind.i64.wrap (((cutC (baL a)).length : Int) + (wdR (cutC (baL b)) : Int)) = N ∧ ¬ N = -2) (HM : ∀ W u, Ext w W → LnAt W u un → Calls Tryd.prog 135 #[.agg #[.string a, .string b, .string c, u], .int .i64 N] W fun e w' => LnO w' W.heap.size ⟨XA, XB, c, un, 1⟩ e ∧ Ext W w') :
    Calls Tryd.prog 124 #[.agg #[.string a, .string b, .string c, v], .int .i64 19] w fun e w' => LnO w' w.heap.size ⟨XA, XB, c, un, 1⟩ e ∧ Ext w w' := by
  have infoL : (Tryd.prog.info? 46).map (·.size) = some 4 := by kernel_rfl
  have hcA := hide (fun W => l4Cut_any (baL a) (baL_bytes a) W (by rw [baL_len]; omega))
  have hcB := hide (fun W => l4Cut_any (baL b) (baL_bytes b) W (by rw [baL_len]; omega))
  rw [toBA_baL] at hcA hcB
  have lA := cutC_len (baL a)
  have lB := cutC_len (baL b)
  rw [baL_len] at lA lB
  obtain ⟨ao, ca, rfl, _, _⟩ := id hv
  have HMv := hide (fun W (E : Ext w W) => HM W _ E (hv.ext E))
  have HWd := hide (fun v W (hv : ClsAt W v (cutC (baL b))) => l4WordRight_any v (cutC (baL b)) W hv (by omega))
  obtain ⟨hw1, hw2⟩ := hw
  clear hv HM
  obtain ⟨A, hA⟩ : ∃ A, A = cutC (baL a) := ⟨_, rfl⟩
  obtain ⟨B, hB⟩ : ∃ B, B = cutC (baL b) := ⟨_, rfl⟩
  rw [← hA] at hcA lA hw1
  rw [← hB] at hcB lB HWd hw1
  obtain ⟨nA, hnA⟩ : ∃ n, A.length = n := ⟨_, rfl⟩
  obtain ⟨nB, hnB⟩ : ∃ n, B.length = n := ⟨_, rfl⟩
  rw [hnA] at hw1
  have HWs : Hid (∀ r : Nat, Wd (fun j => spB (cR B j)) B.length r → r = wdR B) := hide (fun r h => (wdN_eq h).symm)
  obtain ⟨R, hR⟩ : ∃ R, wdR B = R := ⟨_, rfl⟩
  rw [hR] at hw1 HWs
  clear hR
  have HNA := hide hnA
  have HNB := hide hnB
  clear hA hB hnA hnB
  obtain ⟨V, hV⟩ : ∃ V, V = (w.alloc (.cells #[.string a, .string b, .string c, .slice ao un.length ca] 46)).alloc (.cells #[.string { data := #[] }, .string { data := #[] }, .string { data := #[] }, .slice none 0 0] 46) := ⟨_, rfl⟩
  have E0 : Ext w V := by rw [hV]; exact ((Ext.refl w).alloc _).alloc _
  have HB0 : Hid (V.heap[w.heap.size]? = some (.cells #[.string a, .string b, .string c, .slice ao un.length ca] 46 (0, 0))) := hide (by rw [hV]; exact ((Ext.refl _).alloc _).kept (new_block w _))
  have HB1 : Hid (V.heap[w.heap.size + 1]? = some (.cells #[.string { data := #[] }, .string { data := #[] }, .string { data := #[] }, .slice none 0 0] 46 (0, 0))) := hide (by rw [hV]; have h := new_block (w.alloc (.cells #[.string a, .string b, .string c, .slice ao un.length ca] 46)) (.cells #[.string { data := #[] }, .string { data := #[] }, .string { data := #[] }, .slice none 0 0] 46); rw [show (w.alloc (.cells #[.string a, .string b, .string c, .slice ao un.length ca] 46)).heap.size = w.heap.size + 1 by simp] at h; exact h)
  have sz0 : w.heap.size + 1 < V.heap.size := lt_of_block (unhide HB1)
  have HW := hide hV
  have HE0 := hide E0
  clear hV E0
  go_enter Tryd.func124, Tryd.ntmps124
  go_wp2_with fail
  rw [← unhide HW]
  clear HW
  refine ((unhide hcA) _).mono ?_
  rintro e w2 ⟨v2, rs2, rfl, o2, E2⟩
  obtain ⟨a2, c2, rfl⟩ : ∃ a c, v2 = .slice a A.length c := by
    obtain ⟨_, ao, cc, e, _⟩ := o2.cls
    exact ⟨ao, cc, e⟩
  have H2 := hide o2.cls
  rw [unhide HNA] at H2 ⊢
  replace HB0 := hide (E2.kept (unhide HB0))
  replace HB1 := hide (E2.kept (unhide HB1))
  replace HE0 := hide ((unhide HE0).trans E2)
  have q1 : w2.cell? ⟨w.heap.size, 1, none⟩ = some (.string b) := cells_of (unhide HB0) 1 _ rfl
  have z2 := E2.size
  clear o2 E2 hcA
  go_wp2_with fail
  refine ((unhide hcB) _).mono ?_
  rintro e w3 ⟨v3, rs3, rfl, o3, E3⟩
  obtain ⟨a3, c3, rfl⟩ : ∃ a c, v3 = .slice a B.length c := by
    obtain ⟨_, ao, cc, e, _⟩ := o3.cls
    exact ⟨ao, cc, e⟩
  have H3 := hide o3.cls
  rw [unhide HNB] at H3 ⊢
  replace H2 := hide ((unhide H2).ext E3)
  replace HB0 := hide (E3.kept (unhide HB0))
  replace HB1 := hide (E3.kept (unhide HB1))
  replace HE0 := hide ((unhide HE0).trans E3)
  have z3 := E3.size
  clear o3 E3 hcB q1
  go_wp2_with fail
  refine ((unhide HWd) _ _ (unhide H3)).mono ?_
  rintro e w4 ⟨r, rfl, hwd, E4⟩
  have hrN := (unhide HWs) r hwd
  subst hrN
  replace HB0 := hide (E4.kept (unhide HB0))
  replace HB1 := hide (E4.kept (unhide HB1))
  replace HE0 := hide ((unhide HE0).trans E4)
  have z4 := E4.size
  clear hwd E4 HWd HWs
  have HMc := hide ((unhide HMv) w4 (unhide HE0))
  clear HMv H2 H3 HNA HNB
  go_wp2_with (first
    | (refine wpList_load_blk rfl 46 _ rfl (w.heap.size) rfl _ _ _ _ (unhide HB0) Tryd.underlying46 rfl infoL ?_))
  refine (unhide HMc).mono ?_
  rintro e w5 ⟨⟨v5, rfl, hl5⟩, E5⟩
  obtain ⟨ua, uc, rfl⟩ : ∃ ua uc, v5 = .slice ua un.length uc := by
    obtain ⟨x, y, e, _⟩ := hl5.reads
    exact ⟨x, y, e⟩
  have HL5 := hide hl5
  replace HB1 := hide (E5.kept (unhide HB1))
  replace HE0 := hide ((unhide HE0).trans E5)
  have HN := hide (heap_alloc_new w5 (.cells #[.string { data := #[] }, .string { data := #[] }, .string { data := #[] }, .slice none 0 0] 46))
  have hz5 : w.heap.size + 1 < w5.heap.size := lt_of_block (unhide HB1)
  clear HMc E5 hl5 HB0
  dsimp only
  go_wp2_with (first
    | (refine wpList_store_blk rfl 46 _ _ rfl rfl (w5.heap.size) rfl _ _ _ rfl (unhide HN) infoL rfl (by simp [Value.oneCell']) ?_; intro U hB hU; have hU1 := hU.ext ((Ext.refl w5).alloc _) (fun q hq => by omega); have HEU := hide hU1; have HBU := hide hB; have HB1s := hide (hU1.kept (unhide HB1)); clear hB hU hU1)
    | (refine wpList_load_blk rfl 46 _ rfl (w5.heap.size) rfl _ _ _ _ (unhide HBU) Tryd.underlying46 rfl infoL ?_)
    | (refine wpList_store_blk rfl 46 _ _ rfl rfl (w.heap.size + 1) rfl _ _ _ rfl (unhide HB1s) infoL rfl (by simp [Value.oneCell']) ?_; intro Z hy hf9; have HY := hide hy; have FY := hide hf9; clear hy hf9))
  have v0 : Z.cell? ⟨w.heap.size + 1, 0, none⟩ = some (.string XA) := cells_of (unhide HY) 0 _ rfl
  have v1 : Z.cell? ⟨w.heap.size + 1, 1, none⟩ = some (.string XB) := cells_of (unhide HY) 1 _ rfl
  have v2 : Z.cell? ⟨w.heap.size + 1, 2, none⟩ = some (.string c) := cells_of (unhide HY) 2 _ rfl
  have v3 : Z.cell? ⟨w.heap.size + 1, 3, none⟩ = some (.slice ua un.length uc) := cells_of (unhide HY) 3 _ rfl
  exact bodyPost_ret (v := .tuple #[.agg #[.string XA, .string XB, .string c, .slice ua un.length uc], .int .i64 1]) (by simp [results, Tryd.results124, go_sem, v0, v1, v2, v3]) rfl ⟨⟨_, rfl, (((unhide HL5).ext (unhide HEU)).fr (unhide FY) (fun g hg e9 => by have := ((unhide HL5).lt g hg).1; omega)).mono (by omega)⟩, (unhide FY).ext ((unhide HE0).trans (unhide HEU)) (fun q hq => by omega)⟩
end Go.Proofs.YtbieoijeilhadaaDoor

namespace Go.Proofs.YtbieoijeilhadaaDoor
open Go.RowKit
set_option linter.unusedSimpArgs false in
set_option maxRecDepth 10000 in
set_option maxHeartbeats 8000000 in
theorem l4Move_out (a b c : ByteArray) (v : Value) (un : List (ByteArray × ByteArray)) (w : World) (hv : LnAt w v un) (hn : un.length ≤ 50) (za : a.size ≤ 1048576) (zb : b.size ≤ 1048576) (N : Int) (hN : N < 0 ∨ ((cutC (baL a)).length : Int) + ((cutC (baL b)).length : Int) < N) :
    Calls Tryd.prog 135 #[.agg #[.string a, .string b, .string c, v], .int .i64 N] w fun e w' => LnO w' w.heap.size ⟨a, b, c, un, 2⟩ e ∧ Ext w w' := by
  obtain ⟨ic, hic, hc0, hc1, hc2⟩ := info_parts infoClu
  have infoL : (Tryd.prog.info? 46).map (·.size) = some 4 := by kernel_rfl
  have hcA := hide (fun W => l4Cut_any (baL a) (baL_bytes a) W (by rw [baL_len]; omega))
  have hcB := hide (fun W => l4Cut_any (baL b) (baL_bytes b) W (by rw [baL_len]; omega))
  rw [toBA_baL] at hcA hcB
  have lA := cutC_len (baL a)
  have lB := cutC_len (baL b)
  rw [baL_len] at lA lB
  obtain ⟨ao, ca, rfl, _, _⟩ := id hv
  have HC := hide (fun W (E : Ext w W) => l4Copy_any a b c (.slice ao un.length ca) un.length (lnT un) (lnH un) W (Row2At.ext hv E) (by omega))
  have HCU := hide ((cuts_one (baL a)).app (cuts_one (baL b)))
  rw [baL_len, baL_len] at HCU
  clear hv
  obtain ⟨A, hA⟩ : ∃ A, A = cutC (baL a) := ⟨_, rfl⟩
  obtain ⟨B, hB⟩ : ∃ B, B = cutC (baL b) := ⟨_, rfl⟩
  rw [← hA] at hcA lA HCU
  rw [← hB] at hcB lB HCU
  rw [← hA, ← hB] at hN
  have HXA := hide hA
  have HXB := hide hB
  clear hA hB
  obtain ⟨V, hV⟩ : ∃ V, V = (w.alloc (.cells #[.string a, .string b, .string c, .slice ao un.length ca] 46)).alloc (.cells #[.string { data := #[] }, .string { data := #[] }, .string { data := #[] }, .slice none 0 0] 46) := ⟨_, rfl⟩
  have E0 : Ext w V := by rw [hV]; exact ((Ext.refl w).alloc _).alloc _
  have HB0 : Hid (V.heap[w.heap.size]? = some (.cells #[.string a, .string b, .string c, .slice ao un.length ca] 46 (0, 0))) := hide (by rw [hV]; exact ((Ext.refl _).alloc _).kept (new_block w _))
  have HB1 : Hid (V.heap[w.heap.size + 1]? = some (.cells #[.string { data := #[] }, .string { data := #[] }, .string { data := #[] }, .slice none 0 0] 46 (0, 0))) := hide (by rw [hV]; have h := new_block (w.alloc (.cells #[.string a, .string b, .string c, .slice ao un.length ca] 46)) (.cells #[.string { data := #[] }, .string { data := #[] }, .string { data := #[] }, .slice none 0 0] 46); rw [show (w.alloc (.cells #[.string a, .string b, .string c, .slice ao un.length ca] 46)).heap.size = w.heap.size + 1 by simp] at h; exact h)
  have sz0 : w.heap.size + 1 < V.heap.size := lt_of_block (unhide HB1)
  have q0 : V.cell? ⟨w.heap.size, 0, none⟩ = some (.string a) ∧ V.cell? ⟨w.heap.size, 1, none⟩ = some (.string b) := ⟨cells_of (unhide HB0) 0 _ rfl, cells_of (unhide HB0) 1 _ rfl⟩
  have HW := hide hV
  have HE0 := hide E0
  clear hV E0
  go_enter Tryd.func135, Tryd.ntmps135
  go_wp2_with fail
  rw [← unhide HW]
  clear HW
  refine wp_region_held_drew (S := fun W => W.cell? ⟨w.heap.size, 0, none⟩ = some (.string a) ∧ W.cell? ⟨w.heap.size, 1, none⟩ = some (.string b)) (by kernel_rfl) q0 (fun hHeld => ?_)
  refine wpAnyH_take (i := 0) (v := ?_) rfl (by kernel_rfl) (by kernel_rfl) (by kernel_rfl) (fun _ _ _ h => h) (Or.inl ⟨by rfl, ?_⟩) (by assumption) ?_
  rotate_left
  · intro w' hSw; go_simp <;> with_reducible rfl
  simp only [Act.put, qA, qB, qC, qD, qE, qF]
  refine wpAnyH_take (i := 1) (v := ?_) rfl (by kernel_rfl) (by kernel_rfl) (by kernel_rfl) (fun _ _ _ h => h) (Or.inl ⟨by rfl, ?_⟩) (by assumption) ?_
  rotate_left
  · intro w' hSw; go_simp <;> with_reducible rfl
  simp only [Act.put, qA, qB, qC, qD, qE, qF]
  refine wpAnyH_take (i := 3) (v := ?_) rfl (by kernel_rfl) (by kernel_rfl) (by kernel_rfl) (fun _ _ _ h => h) (Or.inl ⟨by rfl, ?_⟩) (by assumption) ?_
  rotate_left
  · intro w' hSw; go_simp <;> with_reducible rfl
  simp only [Act.put, qA, qB, qC, qD, qE, qF]
  refine wpAnyH_take (i := 4) (v := ?_) rfl (by kernel_rfl) (by kernel_rfl) (by kernel_rfl) (fun _ _ _ h => h) (Or.inl ⟨by rfl, ?_⟩) (by assumption) ?_
  rotate_left
  · intro w' hSw; go_simp <;> with_reducible rfl
  simp only [Act.put, qA, qB, qC, qD, qE, qF]
  refine wpAnyH_ready (rs := [2]) (by kernel_rfl) (by simp) ?_
  refine AllReadyH.cons rfl (fun K hK => ?_) AllReadyH.nil
  go_simp
  go_wp2_with (go_at_call 52; refine ((unhide hcA) _).mono ?_; rintro e w2 ⟨v2, rs2, rfl, o2, F2⟩; have E2 : Ext V w2 := (by first | exact F2 | exact (Ext.refl V).drew.trans F2); have d0 := (show _ ∧ _ from ⟨E2.cell q0.1, E2.cell q0.2⟩); have O2 := hide o2; have HE2 := hide E2; clear o2 F2 E2)
  refine hK.out _ _ d0 (fun hHeld => ?_)
  clear hK K
  refine wpAnyH_ready (rs := [5]) (by kernel_rfl) (by simp) ?_
  refine AllReadyH.cons rfl (fun K hK => ?_) AllReadyH.nil
  go_simp
  go_wp2_with (go_at_call 52; refine ((unhide hcB) _).mono ?_; rintro e w3 ⟨v3, rs3, rfl, o3, F3⟩; have E3 : Ext V w3 := (by first | exact (unhide HE2).trans F3 | exact (unhide HE2).drew.trans F3); have f0 := (show _ ∧ _ from ⟨E3.cell q0.1, E3.cell q0.2⟩); have O3 := hide o3; have O23 := hide ((unhide O2).ext F3); have HE3 := hide E3; have hsz2 := (unhide HE2).size; have LT2 := hide (fun g (hg : Foot v2 rs2 A.length g) => ((unhide O2).lt hg)); clear o3 F3 E3)
  refine hK.out _ _ f0 (fun hHeld => ?_)
  clear hK K
  obtain ⟨ys3, oy3, ky3, src3⟩ := (unhide O3).ys
  obtain ⟨ys2, oy2, ky2, _⟩ := (unhide O23).ys
  have hsz3 := (unhide HE3).size
  refine wpAnyH_ready (rs := [6]) (by kernel_rfl) (by simp) ?_
  refine AllReadyH.cons rfl (fun K hK => ?_) AllReadyH.nil
  refine wp_app _ _ 53 rfl V.heap.size 58 ic (.agg #[.slice none 0 0, .int .i64 0]) 2 32 Tryd.underlying53 hic hc0 hc1 hc2 rfl (by decide) v2 A.length ys2 rfl oy2 v3 B.length ys3 rfl src3 (by unfold maxLen; omega) (by omega) (by omega) ?_
  intro v4 w4 o4 G4 _
  have E4 := (unhide HE3).grown G4 (fun q hq => (oy2.lt q hq).1)
  have k0 : w4.cell? ⟨w.heap.size, 0, none⟩ = some (.string a) ∧ w4.cell? ⟨w.heap.size, 1, none⟩ = some (.string b) := ⟨E4.cell q0.1, E4.cell q0.2⟩
  have O4 := hide (OwnCls.append (unhide O23) (unhide O3) hsz2 (fun g hg => ((unhide LT2) g hg).2) oy2 ky2 ky3 o4 G4)
  obtain ⟨a4, c4, rfl⟩ := owns_ln o4
  have hc4 : A.length + B.length ≤ c4 := by
    obtain ⟨_, _, _, e9, h9, _⟩ := (unhide O4).cls
    obtain ⟨_, _, rfl⟩ := Value.slice.inj e9
    rw [List.length_append] at h9
    exact h9
  have HE4 := hide E4
  refine hK.out _ _ k0 (fun hHeld => ?_)
  clear hK K o4 G4 E4 oy3 ky3 src3 oy2 ky2
  simp only [Act.put, qA, qB, qC, qD, qE, qF]
  refine wpAnyH_take (i := 7) (v := ?_) rfl (by kernel_rfl) (by kernel_rfl) (by kernel_rfl) (fun _ _ _ h => h) (Or.inl ⟨by rfl, ?_⟩) (by assumption) ?_
  rotate_left
  · intro w' hSw; go_simp <;> with_reducible rfl
  simp only [Act.put, qA, qB, qC, qD, qE, qF]
  refine wpAnyH_done (by kernel_rfl) ?_ _
  clear HE2 HE3 O2 O3 O23 LT2 d0 f0
  have HB4 := hide ((unhide HE4).kept (unhide HB0))
  have HB14 := hide ((unhide HE4).kept (unhide HB1))
  have HEw := hide ((unhide HE0).trans (unhide HE4))
  have hs4 := (unhide HE4).size
  have HCc := hide ((unhide HC) w4 (unhide HEw))
  clear HB0 HB1 q0 hcB HC
  go_wp2_with (first
    | (refine wpList_load_blk rfl 46 _ rfl (w.heap.size) rfl _ _ _ _ (unhide HB4) Tryd.underlying46 rfl infoL ?_))
  refine (unhide HCc).mono ?_
  rintro e w5 ⟨ua, uc, rfl, HO, E5⟩
  have HN := hide (heap_alloc_new w5 (.cells #[.string { data := #[] }, .string { data := #[] }, .string { data := #[] }, .slice none 0 0] 46))
  have hs5 := E5.size
  replace HB4 := hide (E5.kept (unhide HB4))
  replace HB14 := hide (E5.kept (unhide HB14))
  have O5 := hide ((unhide O4).ext E5)
  have HE5 := hide ((unhide HEw).trans E5)
  obtain ⟨nA, hnA⟩ : ∃ n, A.length = n := ⟨_, rfl⟩
  obtain ⟨nB, hnB⟩ : ∃ n, B.length = n := ⟨_, rfl⟩
  have HNA := hide hnA
  have HNB := hide hnB
  rw [hnA] at lA hc4 hN ⊢
  rw [hnB] at lB hc4 hN ⊢
  rw [hnA, hnB] at O5
  obtain ⟨nAB, hAB⟩ : ∃ n, nA + nB = n := ⟨_, rfl⟩
  rw [hAB] at O5 hc4 ⊢
  have HAB := hide hAB
  have HCC := hcA
  obtain ⟨G, hG⟩ : ∃ G, G = w5.heap.size := ⟨_, rfl⟩
  have HG := hide hG
  clear HCc E5 HE4 HEw hcA O4 hnA hnB hAB k0 hG
  go_wp2_with (first
    | (refine wpList_store_blk rfl 46 _ _ rfl rfl (w5.heap.size) rfl _ _ _ rfl (unhide HN) infoL rfl (by simp [Value.oneCell']) ?_; intro U hB hU; have hU1 := hU.ext ((Ext.refl w5).alloc _) (fun q hq => by omega); rw [← unhide HG] at hB; have HEU := hide hU1; have HBU := hide hB; have HB1U := hide (hU1.kept (unhide HB14)); have HB0U := hide (hU1.kept (unhide HB4)); have c0 := cells_of (hU1.kept (unhide HB4)) 0 _ rfl; have hsU := hU1.size; clear hB hU hU1; refine StopQ.intro ?_))
  show wpList _ _ _ _ _ _
  rw [← unhide HG]
  have HOU := hide ((unhide HO).ext (unhide HEU))
  have HEE := hide ((unhide HE5).trans (unhide HEU))
  have hGw : w.heap.size + 1 < G := by have := unhide HG; omega
  have hAB := unhide HAB
  have HBs := HBU
  have HB1s := HB1U
  rcases hN with hN | hN
  · have h9 := hN
    clear hAB
    go_wp2_with (first
      | (refine wpList_load_blk rfl 46 _ rfl G rfl _ _ _ _ (unhide HBs) Tryd.underlying46 rfl infoL ?_)
      | (refine wpList_store_blk rfl 46 _ _ rfl rfl (w.heap.size + 1) rfl _ _ _ rfl (unhide HB1s) infoL rfl (by simp [Value.oneCell']) ?_; intro Z hy hf9; have HY := hide hy; have FY := hide hf9; clear hy hf9))
    have v0 : Z.cell? ⟨w.heap.size + 1, 0, none⟩ = some (.string a) := cells_of (unhide HY) 0 _ rfl
    have v1 : Z.cell? ⟨w.heap.size + 1, 1, none⟩ = some (.string b) := cells_of (unhide HY) 1 _ rfl
    have v2 : Z.cell? ⟨w.heap.size + 1, 2, none⟩ = some (.string c) := cells_of (unhide HY) 2 _ rfl
    have v3 : Z.cell? ⟨w.heap.size + 1, 3, none⟩ = some (.slice ua un.length uc) := cells_of (unhide HY) 3 _ rfl
    exact bodyPost_ret (v := .tuple #[.agg #[.string a, .string b, .string c, .slice ua un.length uc], .int .i64 2]) (by simp [results, Tryd.results135, go_sem, v0, v1, v2, v3]) rfl (⟨⟨_, rfl, ((unhide HOU).fr (unhide FY) (fun g hg e9 => by have := ((unhide HO).lt g hg).1; omega)).mono (by omega)⟩, (unhide FY).ext (unhide HEE) (fun q hq => by omega)⟩)
  · have h8 : ¬ N < 0 := by omega
    have h9 : (nAB : Int) < N := by omega
    clear hAB
    go_wp2_with (first
      | (refine wpList_load_blk rfl 46 _ rfl G rfl _ _ _ _ (unhide HBs) Tryd.underlying46 rfl infoL ?_)
      | (refine wpList_store_blk rfl 46 _ _ rfl rfl (w.heap.size + 1) rfl _ _ _ rfl (unhide HB1s) infoL rfl (by simp [Value.oneCell']) ?_; intro Z hy hf9; have HY := hide hy; have FY := hide hf9; clear hy hf9))
    have v0 : Z.cell? ⟨w.heap.size + 1, 0, none⟩ = some (.string a) := cells_of (unhide HY) 0 _ rfl
    have v1 : Z.cell? ⟨w.heap.size + 1, 1, none⟩ = some (.string b) := cells_of (unhide HY) 1 _ rfl
    have v2 : Z.cell? ⟨w.heap.size + 1, 2, none⟩ = some (.string c) := cells_of (unhide HY) 2 _ rfl
    have v3 : Z.cell? ⟨w.heap.size + 1, 3, none⟩ = some (.slice ua un.length uc) := cells_of (unhide HY) 3 _ rfl
    exact bodyPost_ret (v := .tuple #[.agg #[.string a, .string b, .string c, .slice ua un.length uc], .int .i64 2]) (by simp [results, Tryd.results135, go_sem, v0, v1, v2, v3]) rfl (⟨⟨_, rfl, ((unhide HOU).fr (unhide FY) (fun g hg e9 => by have := ((unhide HO).lt g hg).1; omega)).mono (by omega)⟩, (unhide FY).ext (unhide HEE) (fun q hq => by omega)⟩)
end Go.Proofs.YtbieoijeilhadaaDoor

namespace Go.Proofs.YtbieoijeilhadaaDoor
open Go.RowKit
set_option linter.unusedSimpArgs false in
set_option maxRecDepth 10000 in
set_option maxHeartbeats 8000000 in
theorem l4Move_stay (a b c : ByteArray) (v : Value) (un : List (ByteArray × ByteArray)) (w : World) (hv : LnAt w v un) (hn : un.length ≤ 50) (za : a.size ≤ 1048576) (zb : b.size ≤ 1048576) (N : Int) (hN : N = ((cutC (baL a)).length : Int) ∧ 0 ≤ (cutC (baL b)).length) :
    Calls Tryd.prog 135 #[.agg #[.string a, .string b, .string c, v], .int .i64 N] w fun e w' => LnO w' w.heap.size ⟨a, b, c, un, 2⟩ e ∧ Ext w w' := by
  obtain ⟨ic, hic, hc0, hc1, hc2⟩ := info_parts infoClu
  have infoL : (Tryd.prog.info? 46).map (·.size) = some 4 := by kernel_rfl
  have hcA := hide (fun W => l4Cut_any (baL a) (baL_bytes a) W (by rw [baL_len]; omega))
  have hcB := hide (fun W => l4Cut_any (baL b) (baL_bytes b) W (by rw [baL_len]; omega))
  rw [toBA_baL] at hcA hcB
  have lA := cutC_len (baL a)
  have lB := cutC_len (baL b)
  rw [baL_len] at lA lB
  obtain ⟨ao, ca, rfl, _, _⟩ := id hv
  have HC := hide (fun W (E : Ext w W) => l4Copy_any a b c (.slice ao un.length ca) un.length (lnT un) (lnH un) W (Row2At.ext hv E) (by omega))
  have HCU := hide ((cuts_one (baL a)).app (cuts_one (baL b)))
  rw [baL_len, baL_len] at HCU
  clear hv
  obtain ⟨A, hA⟩ : ∃ A, A = cutC (baL a) := ⟨_, rfl⟩
  obtain ⟨B, hB⟩ : ∃ B, B = cutC (baL b) := ⟨_, rfl⟩
  rw [← hA] at hcA lA HCU
  rw [← hB] at hcB lB HCU
  rw [← hA, ← hB] at hN
  have HXA := hide hA
  have HXB := hide hB
  clear hA hB
  obtain ⟨V, hV⟩ : ∃ V, V = (w.alloc (.cells #[.string a, .string b, .string c, .slice ao un.length ca] 46)).alloc (.cells #[.string { data := #[] }, .string { data := #[] }, .string { data := #[] }, .slice none 0 0] 46) := ⟨_, rfl⟩
  have E0 : Ext w V := by rw [hV]; exact ((Ext.refl w).alloc _).alloc _
  have HB0 : Hid (V.heap[w.heap.size]? = some (.cells #[.string a, .string b, .string c, .slice ao un.length ca] 46 (0, 0))) := hide (by rw [hV]; exact ((Ext.refl _).alloc _).kept (new_block w _))
  have HB1 : Hid (V.heap[w.heap.size + 1]? = some (.cells #[.string { data := #[] }, .string { data := #[] }, .string { data := #[] }, .slice none 0 0] 46 (0, 0))) := hide (by rw [hV]; have h := new_block (w.alloc (.cells #[.string a, .string b, .string c, .slice ao un.length ca] 46)) (.cells #[.string { data := #[] }, .string { data := #[] }, .string { data := #[] }, .slice none 0 0] 46); rw [show (w.alloc (.cells #[.string a, .string b, .string c, .slice ao un.length ca] 46)).heap.size = w.heap.size + 1 by simp] at h; exact h)
  have sz0 : w.heap.size + 1 < V.heap.size := lt_of_block (unhide HB1)
  have q0 : V.cell? ⟨w.heap.size, 0, none⟩ = some (.string a) ∧ V.cell? ⟨w.heap.size, 1, none⟩ = some (.string b) := ⟨cells_of (unhide HB0) 0 _ rfl, cells_of (unhide HB0) 1 _ rfl⟩
  have HW := hide hV
  have HE0 := hide E0
  clear hV E0
  go_enter Tryd.func135, Tryd.ntmps135
  go_wp2_with fail
  rw [← unhide HW]
  clear HW
  refine wp_region_held_drew (S := fun W => W.cell? ⟨w.heap.size, 0, none⟩ = some (.string a) ∧ W.cell? ⟨w.heap.size, 1, none⟩ = some (.string b)) (by kernel_rfl) q0 (fun hHeld => ?_)
  refine wpAnyH_take (i := 0) (v := ?_) rfl (by kernel_rfl) (by kernel_rfl) (by kernel_rfl) (fun _ _ _ h => h) (Or.inl ⟨by rfl, ?_⟩) (by assumption) ?_
  rotate_left
  · intro w' hSw; go_simp <;> with_reducible rfl
  simp only [Act.put, qA, qB, qC, qD, qE, qF]
  refine wpAnyH_take (i := 1) (v := ?_) rfl (by kernel_rfl) (by kernel_rfl) (by kernel_rfl) (fun _ _ _ h => h) (Or.inl ⟨by rfl, ?_⟩) (by assumption) ?_
  rotate_left
  · intro w' hSw; go_simp <;> with_reducible rfl
  simp only [Act.put, qA, qB, qC, qD, qE, qF]
  refine wpAnyH_take (i := 3) (v := ?_) rfl (by kernel_rfl) (by kernel_rfl) (by kernel_rfl) (fun _ _ _ h => h) (Or.inl ⟨by rfl, ?_⟩) (by assumption) ?_
  rotate_left
  · intro w' hSw; go_simp <;> with_reducible rfl
  simp only [Act.put, qA, qB, qC, qD, qE, qF]
  refine wpAnyH_take (i := 4) (v := ?_) rfl (by kernel_rfl) (by kernel_rfl) (by kernel_rfl) (fun _ _ _ h => h) (Or.inl ⟨by rfl, ?_⟩) (by assumption) ?_
  rotate_left
  · intro w' hSw; go_simp <;> with_reducible rfl
  simp only [Act.put, qA, qB, qC, qD, qE, qF]
  refine wpAnyH_ready (rs := [2]) (by kernel_rfl) (by simp) ?_
  refine AllReadyH.cons rfl (fun K hK => ?_) AllReadyH.nil
  go_simp
  go_wp2_with (go_at_call 52; refine ((unhide hcA) _).mono ?_; rintro e w2 ⟨v2, rs2, rfl, o2, F2⟩; have E2 : Ext V w2 := (by first | exact F2 | exact (Ext.refl V).drew.trans F2); have d0 := (show _ ∧ _ from ⟨E2.cell q0.1, E2.cell q0.2⟩); have O2 := hide o2; have HE2 := hide E2; clear o2 F2 E2)
  refine hK.out _ _ d0 (fun hHeld => ?_)
  clear hK K
  refine wpAnyH_ready (rs := [5]) (by kernel_rfl) (by simp) ?_
  refine AllReadyH.cons rfl (fun K hK => ?_) AllReadyH.nil
  go_simp
  go_wp2_with (go_at_call 52; refine ((unhide hcB) _).mono ?_; rintro e w3 ⟨v3, rs3, rfl, o3, F3⟩; have E3 : Ext V w3 := (by first | exact (unhide HE2).trans F3 | exact (unhide HE2).drew.trans F3); have f0 := (show _ ∧ _ from ⟨E3.cell q0.1, E3.cell q0.2⟩); have O3 := hide o3; have O23 := hide ((unhide O2).ext F3); have HE3 := hide E3; have hsz2 := (unhide HE2).size; have LT2 := hide (fun g (hg : Foot v2 rs2 A.length g) => ((unhide O2).lt hg)); clear o3 F3 E3)
  refine hK.out _ _ f0 (fun hHeld => ?_)
  clear hK K
  obtain ⟨ys3, oy3, ky3, src3⟩ := (unhide O3).ys
  obtain ⟨ys2, oy2, ky2, _⟩ := (unhide O23).ys
  have hsz3 := (unhide HE3).size
  refine wpAnyH_ready (rs := [6]) (by kernel_rfl) (by simp) ?_
  refine AllReadyH.cons rfl (fun K hK => ?_) AllReadyH.nil
  refine wp_app _ _ 53 rfl V.heap.size 58 ic (.agg #[.slice none 0 0, .int .i64 0]) 2 32 Tryd.underlying53 hic hc0 hc1 hc2 rfl (by decide) v2 A.length ys2 rfl oy2 v3 B.length ys3 rfl src3 (by unfold maxLen; omega) (by omega) (by omega) ?_
  intro v4 w4 o4 G4 _
  have E4 := (unhide HE3).grown G4 (fun q hq => (oy2.lt q hq).1)
  have k0 : w4.cell? ⟨w.heap.size, 0, none⟩ = some (.string a) ∧ w4.cell? ⟨w.heap.size, 1, none⟩ = some (.string b) := ⟨E4.cell q0.1, E4.cell q0.2⟩
  have O4 := hide (OwnCls.append (unhide O23) (unhide O3) hsz2 (fun g hg => ((unhide LT2) g hg).2) oy2 ky2 ky3 o4 G4)
  obtain ⟨a4, c4, rfl⟩ := owns_ln o4
  have hc4 : A.length + B.length ≤ c4 := by
    obtain ⟨_, _, _, e9, h9, _⟩ := (unhide O4).cls
    obtain ⟨_, _, rfl⟩ := Value.slice.inj e9
    rw [List.length_append] at h9
    exact h9
  have HE4 := hide E4
  refine hK.out _ _ k0 (fun hHeld => ?_)
  clear hK K o4 G4 E4 oy3 ky3 src3 oy2 ky2
  simp only [Act.put, qA, qB, qC, qD, qE, qF]
  refine wpAnyH_take (i := 7) (v := ?_) rfl (by kernel_rfl) (by kernel_rfl) (by kernel_rfl) (fun _ _ _ h => h) (Or.inl ⟨by rfl, ?_⟩) (by assumption) ?_
  rotate_left
  · intro w' hSw; go_simp <;> with_reducible rfl
  simp only [Act.put, qA, qB, qC, qD, qE, qF]
  refine wpAnyH_done (by kernel_rfl) ?_ _
  clear HE2 HE3 O2 O3 O23 LT2 d0 f0
  have HB4 := hide ((unhide HE4).kept (unhide HB0))
  have HB14 := hide ((unhide HE4).kept (unhide HB1))
  have HEw := hide ((unhide HE0).trans (unhide HE4))
  have hs4 := (unhide HE4).size
  have HCc := hide ((unhide HC) w4 (unhide HEw))
  clear HB0 HB1 q0 hcB HC
  go_wp2_with (first
    | (refine wpList_load_blk rfl 46 _ rfl (w.heap.size) rfl _ _ _ _ (unhide HB4) Tryd.underlying46 rfl infoL ?_))
  refine (unhide HCc).mono ?_
  rintro e w5 ⟨ua, uc, rfl, HO, E5⟩
  have HN := hide (heap_alloc_new w5 (.cells #[.string { data := #[] }, .string { data := #[] }, .string { data := #[] }, .slice none 0 0] 46))
  have hs5 := E5.size
  replace HB4 := hide (E5.kept (unhide HB4))
  replace HB14 := hide (E5.kept (unhide HB14))
  have O5 := hide ((unhide O4).ext E5)
  have HE5 := hide ((unhide HEw).trans E5)
  obtain ⟨nA, hnA⟩ : ∃ n, A.length = n := ⟨_, rfl⟩
  obtain ⟨nB, hnB⟩ : ∃ n, B.length = n := ⟨_, rfl⟩
  have HNA := hide hnA
  have HNB := hide hnB
  rw [hnA] at lA hc4 hN ⊢
  rw [hnB] at lB hc4 hN ⊢
  rw [hnA, hnB] at O5
  obtain ⟨nAB, hAB⟩ : ∃ n, nA + nB = n := ⟨_, rfl⟩
  rw [hAB] at O5 hc4 ⊢
  have HAB := hide hAB
  have HCC := hcA
  obtain ⟨G, hG⟩ : ∃ G, G = w5.heap.size := ⟨_, rfl⟩
  have HG := hide hG
  clear HCc E5 HE4 HEw hcA O4 hnA hnB hAB k0 hG
  go_wp2_with (first
    | (refine wpList_store_blk rfl 46 _ _ rfl rfl (w5.heap.size) rfl _ _ _ rfl (unhide HN) infoL rfl (by simp [Value.oneCell']) ?_; intro U hB hU; have hU1 := hU.ext ((Ext.refl w5).alloc _) (fun q hq => by omega); rw [← unhide HG] at hB; have HEU := hide hU1; have HBU := hide hB; have HB1U := hide (hU1.kept (unhide HB14)); have HB0U := hide (hU1.kept (unhide HB4)); have c0 := cells_of (hU1.kept (unhide HB4)) 0 _ rfl; have hsU := hU1.size; clear hB hU hU1; refine StopQ.intro ?_))
  show wpList _ _ _ _ _ _
  rw [← unhide HG]
  have HOU := hide ((unhide HO).ext (unhide HEU))
  have HEE := hide ((unhide HE5).trans (unhide HEU))
  have hGw : w.heap.size + 1 < G := by have := unhide HG; omega
  have hAB := unhide HAB
  have h8 : ¬ (nA : Int) < 0 := by omega
  have h9 : ¬ (nAB : Int) < (nA : Int) := by omega
  obtain ⟨rfl, -⟩ := hN
  clear hAB
  go_wp2_with fail
  refine ((unhide HCC) _).mono ?_
  rintro e w6 ⟨v6, rs6, rfl, o6, E6⟩
  obtain ⟨a6, c6, rfl⟩ : ∃ a c, v6 = .slice a A.length c := by
    obtain ⟨_, ao, cc, e, _⟩ := o6.cls
    exact ⟨ao, cc, e⟩
  rw [unhide HNA]
  replace HBU := hide (E6.kept (unhide HBU))
  replace HB1U := hide (E6.kept (unhide HB1U))
  replace HOU := hide ((unhide HOU).ext E6)
  replace HEE := hide ((unhide HEE).trans E6)
  have O6 := hide ((unhide O5).ext ((unhide HEU).trans E6))
  clear o6 E6 c0
  have HBs := HBU
  have HB1s := HB1U
  go_wp2_with (first
    | (refine wpList_load_blk rfl 46 _ rfl G rfl _ _ _ _ (unhide HBs) Tryd.underlying46 rfl infoL ?_)
    | (refine wpList_store_blk rfl 46 _ _ rfl rfl (w.heap.size + 1) rfl _ _ _ rfl (unhide HB1s) infoL rfl (by simp [Value.oneCell']) ?_; intro Z hy hf9; have HY := hide hy; have FY := hide hf9; clear hy hf9))
  have v0 : Z.cell? ⟨w.heap.size + 1, 0, none⟩ = some (.string a) := cells_of (unhide HY) 0 _ rfl
  have v1 : Z.cell? ⟨w.heap.size + 1, 1, none⟩ = some (.string b) := cells_of (unhide HY) 1 _ rfl
  have v2 : Z.cell? ⟨w.heap.size + 1, 2, none⟩ = some (.string c) := cells_of (unhide HY) 2 _ rfl
  have v3 : Z.cell? ⟨w.heap.size + 1, 3, none⟩ = some (.slice ua un.length uc) := cells_of (unhide HY) 3 _ rfl
  exact bodyPost_ret (v := .tuple #[.agg #[.string a, .string b, .string c, .slice ua un.length uc], .int .i64 2]) (by simp [results, Tryd.results135, go_sem, v0, v1, v2, v3]) rfl (⟨⟨_, rfl, ((unhide HOU).fr (unhide FY) (fun g hg e9 => by have := ((unhide HO).lt g hg).1; omega)).mono (by omega)⟩, (unhide FY).ext (unhide HEE) (fun q hq => by omega)⟩)
end Go.Proofs.YtbieoijeilhadaaDoor

namespace Go.Proofs.YtbieoijeilhadaaDoor
open Go.RowKit
set_option linter.unusedSimpArgs false in
set_option maxRecDepth 10000 in
set_option maxHeartbeats 8000000 in
theorem l4Move_go (a b c : ByteArray) (v : Value) (un : List (ByteArray × ByteArray)) (w : World) (hv : LnAt w v un) (hn : un.length ≤ 50) (za : a.size ≤ 1048576) (zb : b.size ≤ 1048576) (N : Int) (p : Nat) (hN : N = (p : Int) ∧ p ≤ (cutC (baL a)).length + (cutC (baL b)).length ∧ p ≠ (cutC (baL a)).length) :
    Calls Tryd.prog 135 #[.agg #[.string a, .string b, .string c, v], .int .i64 N] w fun e w' => LnO w' w.heap.size (edMv a b c un p) e ∧ Ext w w' := by
  obtain ⟨ic, hic, hc0, hc1, hc2⟩ := info_parts infoClu
  have infoL : (Tryd.prog.info? 46).map (·.size) = some 4 := by kernel_rfl
  have hcA := hide (fun W => l4Cut_any (baL a) (baL_bytes a) W (by rw [baL_len]; omega))
  have hcB := hide (fun W => l4Cut_any (baL b) (baL_bytes b) W (by rw [baL_len]; omega))
  rw [toBA_baL] at hcA hcB
  have lA := cutC_len (baL a)
  have lB := cutC_len (baL b)
  rw [baL_len] at lA lB
  obtain ⟨ao, ca, rfl, _, _⟩ := id hv
  have HC := hide (fun W (E : Ext w W) => l4Copy_any a b c (.slice ao un.length ca) un.length (lnT un) (lnH un) W (Row2At.ext hv E) (by omega))
  have HCU := hide ((cuts_one (baL a)).app (cuts_one (baL b)))
  rw [baL_len, baL_len] at HCU
  clear hv
  obtain ⟨A, hA⟩ : ∃ A, A = cutC (baL a) := ⟨_, rfl⟩
  obtain ⟨B, hB⟩ : ∃ B, B = cutC (baL b) := ⟨_, rfl⟩
  rw [← hA] at hcA lA HCU
  rw [← hB] at hcB lB HCU
  rw [← hA, ← hB] at hN
  have HXA := hide hA
  have HXB := hide hB
  clear hA hB
  obtain ⟨V, hV⟩ : ∃ V, V = (w.alloc (.cells #[.string a, .string b, .string c, .slice ao un.length ca] 46)).alloc (.cells #[.string { data := #[] }, .string { data := #[] }, .string { data := #[] }, .slice none 0 0] 46) := ⟨_, rfl⟩
  have E0 : Ext w V := by rw [hV]; exact ((Ext.refl w).alloc _).alloc _
  have HB0 : Hid (V.heap[w.heap.size]? = some (.cells #[.string a, .string b, .string c, .slice ao un.length ca] 46 (0, 0))) := hide (by rw [hV]; exact ((Ext.refl _).alloc _).kept (new_block w _))
  have HB1 : Hid (V.heap[w.heap.size + 1]? = some (.cells #[.string { data := #[] }, .string { data := #[] }, .string { data := #[] }, .slice none 0 0] 46 (0, 0))) := hide (by rw [hV]; have h := new_block (w.alloc (.cells #[.string a, .string b, .string c, .slice ao un.length ca] 46)) (.cells #[.string { data := #[] }, .string { data := #[] }, .string { data := #[] }, .slice none 0 0] 46); rw [show (w.alloc (.cells #[.string a, .string b, .string c, .slice ao un.length ca] 46)).heap.size = w.heap.size + 1 by simp] at h; exact h)
  have sz0 : w.heap.size + 1 < V.heap.size := lt_of_block (unhide HB1)
  have q0 : V.cell? ⟨w.heap.size, 0, none⟩ = some (.string a) ∧ V.cell? ⟨w.heap.size, 1, none⟩ = some (.string b) := ⟨cells_of (unhide HB0) 0 _ rfl, cells_of (unhide HB0) 1 _ rfl⟩
  have HW := hide hV
  have HE0 := hide E0
  clear hV E0
  go_enter Tryd.func135, Tryd.ntmps135
  go_wp2_with fail
  rw [← unhide HW]
  clear HW
  refine wp_region_held_drew (S := fun W => W.cell? ⟨w.heap.size, 0, none⟩ = some (.string a) ∧ W.cell? ⟨w.heap.size, 1, none⟩ = some (.string b)) (by kernel_rfl) q0 (fun hHeld => ?_)
  refine wpAnyH_take (i := 0) (v := ?_) rfl (by kernel_rfl) (by kernel_rfl) (by kernel_rfl) (fun _ _ _ h => h) (Or.inl ⟨by rfl, ?_⟩) (by assumption) ?_
  rotate_left
  · intro w' hSw; go_simp <;> with_reducible rfl
  simp only [Act.put, qA, qB, qC, qD, qE, qF]
  refine wpAnyH_take (i := 1) (v := ?_) rfl (by kernel_rfl) (by kernel_rfl) (by kernel_rfl) (fun _ _ _ h => h) (Or.inl ⟨by rfl, ?_⟩) (by assumption) ?_
  rotate_left
  · intro w' hSw; go_simp <;> with_reducible rfl
  simp only [Act.put, qA, qB, qC, qD, qE, qF]
  refine wpAnyH_take (i := 3) (v := ?_) rfl (by kernel_rfl) (by kernel_rfl) (by kernel_rfl) (fun _ _ _ h => h) (Or.inl ⟨by rfl, ?_⟩) (by assumption) ?_
  rotate_left
  · intro w' hSw; go_simp <;> with_reducible rfl
  simp only [Act.put, qA, qB, qC, qD, qE, qF]
  refine wpAnyH_take (i := 4) (v := ?_) rfl (by kernel_rfl) (by kernel_rfl) (by kernel_rfl) (fun _ _ _ h => h) (Or.inl ⟨by rfl, ?_⟩) (by assumption) ?_
  rotate_left
  · intro w' hSw; go_simp <;> with_reducible rfl
  simp only [Act.put, qA, qB, qC, qD, qE, qF]
  refine wpAnyH_ready (rs := [2]) (by kernel_rfl) (by simp) ?_
  refine AllReadyH.cons rfl (fun K hK => ?_) AllReadyH.nil
  go_simp
  go_wp2_with (go_at_call 52; refine ((unhide hcA) _).mono ?_; rintro e w2 ⟨v2, rs2, rfl, o2, F2⟩; have E2 : Ext V w2 := (by first | exact F2 | exact (Ext.refl V).drew.trans F2); have d0 := (show _ ∧ _ from ⟨E2.cell q0.1, E2.cell q0.2⟩); have O2 := hide o2; have HE2 := hide E2; clear o2 F2 E2)
  refine hK.out _ _ d0 (fun hHeld => ?_)
  clear hK K
  refine wpAnyH_ready (rs := [5]) (by kernel_rfl) (by simp) ?_
  refine AllReadyH.cons rfl (fun K hK => ?_) AllReadyH.nil
  go_simp
  go_wp2_with (go_at_call 52; refine ((unhide hcB) _).mono ?_; rintro e w3 ⟨v3, rs3, rfl, o3, F3⟩; have E3 : Ext V w3 := (by first | exact (unhide HE2).trans F3 | exact (unhide HE2).drew.trans F3); have f0 := (show _ ∧ _ from ⟨E3.cell q0.1, E3.cell q0.2⟩); have O3 := hide o3; have O23 := hide ((unhide O2).ext F3); have HE3 := hide E3; have hsz2 := (unhide HE2).size; have LT2 := hide (fun g (hg : Foot v2 rs2 A.length g) => ((unhide O2).lt hg)); clear o3 F3 E3)
  refine hK.out _ _ f0 (fun hHeld => ?_)
  clear hK K
  obtain ⟨ys3, oy3, ky3, src3⟩ := (unhide O3).ys
  obtain ⟨ys2, oy2, ky2, _⟩ := (unhide O23).ys
  have hsz3 := (unhide HE3).size
  refine wpAnyH_ready (rs := [6]) (by kernel_rfl) (by simp) ?_
  refine AllReadyH.cons rfl (fun K hK => ?_) AllReadyH.nil
  refine wp_app _ _ 53 rfl V.heap.size 58 ic (.agg #[.slice none 0 0, .int .i64 0]) 2 32 Tryd.underlying53 hic hc0 hc1 hc2 rfl (by decide) v2 A.length ys2 rfl oy2 v3 B.length ys3 rfl src3 (by unfold maxLen; omega) (by omega) (by omega) ?_
  intro v4 w4 o4 G4 _
  have E4 := (unhide HE3).grown G4 (fun q hq => (oy2.lt q hq).1)
  have k0 : w4.cell? ⟨w.heap.size, 0, none⟩ = some (.string a) ∧ w4.cell? ⟨w.heap.size, 1, none⟩ = some (.string b) := ⟨E4.cell q0.1, E4.cell q0.2⟩
  have O4 := hide (OwnCls.append (unhide O23) (unhide O3) hsz2 (fun g hg => ((unhide LT2) g hg).2) oy2 ky2 ky3 o4 G4)
  obtain ⟨a4, c4, rfl⟩ := owns_ln o4
  have hc4 : A.length + B.length ≤ c4 := by
    obtain ⟨_, _, _, e9, h9, _⟩ := (unhide O4).cls
    obtain ⟨_, _, rfl⟩ := Value.slice.inj e9
    rw [List.length_append] at h9
    exact h9
  have HE4 := hide E4
  refine hK.out _ _ k0 (fun hHeld => ?_)
  clear hK K o4 G4 E4 oy3 ky3 src3 oy2 ky2
  simp only [Act.put, qA, qB, qC, qD, qE, qF]
  refine wpAnyH_take (i := 7) (v := ?_) rfl (by kernel_rfl) (by kernel_rfl) (by kernel_rfl) (fun _ _ _ h => h) (Or.inl ⟨by rfl, ?_⟩) (by assumption) ?_
  rotate_left
  · intro w' hSw; go_simp <;> with_reducible rfl
  simp only [Act.put, qA, qB, qC, qD, qE, qF]
  refine wpAnyH_done (by kernel_rfl) ?_ _
  clear HE2 HE3 O2 O3 O23 LT2 d0 f0
  have HB4 := hide ((unhide HE4).kept (unhide HB0))
  have HB14 := hide ((unhide HE4).kept (unhide HB1))
  have HEw := hide ((unhide HE0).trans (unhide HE4))
  have hs4 := (unhide HE4).size
  have HCc := hide ((unhide HC) w4 (unhide HEw))
  clear HB0 HB1 q0 hcB HC
  go_wp2_with (first
    | (refine wpList_load_blk rfl 46 _ rfl (w.heap.size) rfl _ _ _ _ (unhide HB4) Tryd.underlying46 rfl infoL ?_))
  refine (unhide HCc).mono ?_
  rintro e w5 ⟨ua, uc, rfl, HO, E5⟩
  have HN := hide (heap_alloc_new w5 (.cells #[.string { data := #[] }, .string { data := #[] }, .string { data := #[] }, .slice none 0 0] 46))
  have hs5 := E5.size
  replace HB4 := hide (E5.kept (unhide HB4))
  replace HB14 := hide (E5.kept (unhide HB14))
  have O5 := hide ((unhide O4).ext E5)
  have HE5 := hide ((unhide HEw).trans E5)
  obtain ⟨nA, hnA⟩ : ∃ n, A.length = n := ⟨_, rfl⟩
  obtain ⟨nB, hnB⟩ : ∃ n, B.length = n := ⟨_, rfl⟩
  have HNA := hide hnA
  have HNB := hide hnB
  rw [hnA] at lA hc4 hN ⊢
  rw [hnB] at lB hc4 hN ⊢
  rw [hnA, hnB] at O5
  obtain ⟨nAB, hAB⟩ : ∃ n, nA + nB = n := ⟨_, rfl⟩
  rw [hAB] at O5 hc4 ⊢
  have HAB := hide hAB
  have HCC := hcA
  obtain ⟨G, hG⟩ : ∃ G, G = w5.heap.size := ⟨_, rfl⟩
  have HG := hide hG
  clear HCc E5 HE4 HEw hcA O4 hnA hnB hAB k0 hG
  go_wp2_with (first
    | (refine wpList_store_blk rfl 46 _ _ rfl rfl (w5.heap.size) rfl _ _ _ rfl (unhide HN) infoL rfl (by simp [Value.oneCell']) ?_; intro U hB hU; have hU1 := hU.ext ((Ext.refl w5).alloc _) (fun q hq => by omega); rw [← unhide HG] at hB; have HEU := hide hU1; have HBU := hide hB; have HB1U := hide (hU1.kept (unhide HB14)); have HB0U := hide (hU1.kept (unhide HB4)); have c0 := cells_of (hU1.kept (unhide HB4)) 0 _ rfl; have hsU := hU1.size; clear hB hU hU1; refine StopQ.intro ?_))
  show wpList _ _ _ _ _ _
  rw [← unhide HG]
  have HOU := hide ((unhide HO).ext (unhide HEU))
  have HEE := hide ((unhide HE5).trans (unhide HEU))
  have hGw : w.heap.size + 1 < G := by have := unhide HG; omega
  have hAB := unhide HAB
  obtain ⟨rfl, hp, hne⟩ := hN
  have h8 : ¬ (p : Int) < 0 := by omega
  have h9 : ¬ (nAB : Int) < (p : Int) := by omega
  have h10 : ¬ (p : Int) = (nA : Int) := by omega
  have h11 : ((p : Int) == (nA : Int)) = false := by simp; omega
  have h12 : (p : Int) ≤ (nAB : Int) := by omega
  have h13 : (p : Int) ≤ (c4 : Int) := by omega
  have h14 : (nAB : Int) ≤ (c4 : Int) := by omega
  have hpos : 0 < nAB := by omega
  have hpn : p ≤ nAB := by omega
  have HLen := hide (show (A ++ B).length = nAB by rw [List.length_append, unhide HNA, unhide HNB]; exact hAB)
  obtain ⟨g4, rfl⟩ : ∃ g, a4 = some ⟨g, 0, none⟩ := by
    obtain ⟨_, ⟨ys, hy, _⟩, _⟩ := unhide O5
    rcases hy.2 with ⟨_, e0⟩ | ⟨g, cc, cur, e0, _⟩
    · rw [unhide HLen] at e0; omega
    · exact ⟨g, (Value.slice.inj e0).1⟩
  have HT1 := hide (fun v W (hv : ClsAt W v ((A ++ B).take p)) => specTextOf_any v _ W hv (by have := ((unhide HCU).part 0 p).1; simp at this ⊢; omega) (fun j _ => by have := ((unhide HCU).part 0 p).2 j; simpa using this))
  have HT2 := hide (fun v W (hv : ClsAt W v ((A ++ B).drop p)) => specTextOf_any v _ W hv (by have := ((unhide HCU).part p (A ++ B).length).1; rw [List.take_length] at this; omega) (fun j _ => by have := ((unhide HCU).part p (A ++ B).length).2 j; rw [List.take_length] at this; exact this))
  obtain ⟨TA, hTA⟩ : ∃ x, x = toBA (textC ((A ++ B).take p)) := ⟨_, rfl⟩
  obtain ⟨TB, hTB⟩ : ∃ x, x = toBA (textC ((A ++ B).drop p)) := ⟨_, rfl⟩
  rw [← hTA] at HT1
  rw [← hTB] at HT2
  have HTA := hide hTA
  have HTB := hide hTB
  have HXO : Hid (edMv a b c un p = ⟨TA, TB, c, un, 1⟩) := hide (by rw [hTA, hTB, unhide HXA, unhide HXB]; rfl)
  clear hTA hTB hp hne
  clear hAB
  go_wp2_with fail
  refine ((unhide HCC) _).mono ?_
  rintro e w6 ⟨v6, rs6, rfl, o6, E6⟩
  obtain ⟨a6, c6, rfl⟩ : ∃ a c, v6 = .slice a A.length c := by
    obtain ⟨_, ao, cc, e, _⟩ := o6.cls
    exact ⟨ao, cc, e⟩
  rw [unhide HNA]
  replace HBU := hide (E6.kept (unhide HBU))
  replace HB1U := hide (E6.kept (unhide HB1U))
  replace HOU := hide ((unhide HOU).ext E6)
  replace HEE := hide ((unhide HEE).trans E6)
  have O6 := hide ((unhide O5).ext ((unhide HEU).trans E6))
  clear o6 E6 c0
  go_wp2_with fail
  have hcl := (unhide O6).cls
  rw [← unhide HLen] at hcl
  refine ((unhide HT1) _ _ (by have := hcl.cut 0 p c4 (Nat.zero_le _) (by rw [unhide HLen]; exact hpn) (by omega) (some ⟨g4, 0, none⟩) (.inl rfl); simpa using this)).mono ?_
  rintro e w7 ⟨rfl, E7⟩
  have hB7 := E7.kept (unhide HBU)
  have y0 : w7.cell? ⟨G, 0, none⟩ = some (.string a) := cells_of hB7 0 _ rfl
  have fz : ∀ i, w7.frozen? ⟨G, i, none⟩ = false := fun i => Lib.frozen_of_heap hB7 i
  have O7 := hide ((unhide O6).ext E7)
  have HB7 := hide hB7
  replace HB1U := hide (E7.kept (unhide HB1U))
  replace HOU := hide ((unhide HOU).ext E7)
  replace HEE := hide ((unhide HEE).trans E7)
  have F7 : Fr (fun q => q = G) w7 (w7.setCell ⟨G, 0, none⟩ (.string TA)) := Fr.setCell (S := fun q => q = G) (Fr.refl _ w7) (a := ⟨G, 0, none⟩) rfl _
  have O8 := hide ((unhide O7).fr F7 (fun g hg e9 => by
    have h1 := (unhide O5).lt hg
    have h2 := unhide HG
    omega))
  have HB8 := hide (set_blk2 (i := 0) (v := .string TA) (cs' := #[.string TA, .string b, .string c, .slice ua un.length uc]) (unhide HB7) rfl)
  have HF7 := hide F7
  clear hcl E7 hB7 HT1 F7
  have HOX := hide ((unhide HOU).fr (unhide HF7) (fun g hg e9 => by have := ((unhide HO).lt g hg).2; have := unhide HG; omega))
  have HEX := hide ((unhide HF7).ext (unhide HEE) (fun q hq => by omega))
  have HB1X := hide (set_else (c := G) (i := 0) (v := .string TA) (unhide HB1U) (by omega))
  by_cases hcp : c4 = p
  · have hpn2 : nAB = p := by omega
    go_wp2_with fail
    have hcl := (unhide O8).cls
    rw [← unhide HLen] at hcl
    refine ((unhide HT2) _ _ (by have := hcl.cut p (A ++ B).length 0 (by rw [unhide HLen]; exact hpn) (Nat.le_refl _) (by rw [unhide HLen]; omega) (some ⟨g4, 0, none⟩) (.inr (by rw [unhide HLen]; omega)); rw [List.take_length, show (A ++ B).length - p = 0 by rw [unhide HLen]; omega] at this; exact this)).mono ?_
    rintro e w9 ⟨rfl, E9⟩
    have hB9 := E9.kept (unhide HB8)
    have y1 : w9.cell? ⟨G, 1, none⟩ = some (.string b) := cells_of hB9 1 _ rfl
    have fz9 : ∀ i, w9.frozen? ⟨G, i, none⟩ = false := fun i => Lib.frozen_of_heap hB9 i
    have HBs := hide (set_blk2 (i := 1) (v := .string TB) (cs' := #[.string TA, .string TB, .string c, .slice ua un.length uc]) hB9 rfl)
    have HB1s := hide (set_else (c := G) (i := 1) (v := .string TB) (E9.kept (unhide HB1X)) (by omega))
    have F9 : Fr (fun q => q = G) w9 (w9.setCell ⟨G, 1, none⟩ (.string TB)) := Fr.setCell (S := fun q => q = G) (Fr.refl _ w9) (a := ⟨G, 1, none⟩) rfl _
    have HO9 := hide (((unhide HOX).ext E9).fr F9 (fun g hg e9 => by have := ((unhide HO).lt g hg).2; have := unhide HG; omega))
    have HE9 := hide (F9.ext ((unhide HEX).trans E9) (fun q hq => by omega))
    clear hB9 F9 E9 hcl HT2
    go_wp2_with (first
      | (refine wpList_load_blk rfl 46 _ rfl G rfl _ _ _ _ (unhide HBs) Tryd.underlying46 rfl infoL ?_)
      | (refine wpList_store_blk rfl 46 _ _ rfl rfl (w.heap.size + 1) rfl _ _ _ rfl (unhide HB1s) infoL rfl (by simp [Value.oneCell']) ?_; intro Z hy hf9; have HY := hide hy; have FY := hide hf9; clear hy hf9))
    have v0 : Z.cell? ⟨w.heap.size + 1, 0, none⟩ = some (.string TA) := cells_of (unhide HY) 0 _ rfl
    have v1 : Z.cell? ⟨w.heap.size + 1, 1, none⟩ = some (.string TB) := cells_of (unhide HY) 1 _ rfl
    have v2 : Z.cell? ⟨w.heap.size + 1, 2, none⟩ = some (.string c) := cells_of (unhide HY) 2 _ rfl
    have v3 : Z.cell? ⟨w.heap.size + 1, 3, none⟩ = some (.slice ua un.length uc) := cells_of (unhide HY) 3 _ rfl
    exact bodyPost_ret (v := .tuple #[.agg #[.string TA, .string TB, .string c, .slice ua un.length uc], .int .i64 1]) (by simp [results, Tryd.results135, go_sem, v0, v1, v2, v3]) rfl (by rw [unhide HXO]; exact ⟨⟨_, rfl, ((unhide HO9).fr (unhide FY) (fun g hg e9 => by have := ((unhide HO).lt g hg).1; omega)).mono (by omega)⟩, (unhide FY).ext (unhide HE9) (fun q hq => by omega)⟩)
  · go_wp2_with fail
    have hcl := (unhide O8).cls
    rw [← unhide HLen] at hcl
    refine ((unhide HT2) _ _ (by have := hcl.cut p (A ++ B).length (c4 - p) (by rw [unhide HLen]; exact hpn) (Nat.le_refl _) (by rw [unhide HLen]; omega) (some ⟨g4, p * 2, none⟩) (.inl (by simp [Addr.add])); rw [List.take_length, unhide HLen] at this; exact this)).mono ?_
    rintro e w9 ⟨rfl, E9⟩
    have hB9 := E9.kept (unhide HB8)
    have y1 : w9.cell? ⟨G, 1, none⟩ = some (.string b) := cells_of hB9 1 _ rfl
    have fz9 : ∀ i, w9.frozen? ⟨G, i, none⟩ = false := fun i => Lib.frozen_of_heap hB9 i
    have HBs := hide (set_blk2 (i := 1) (v := .string TB) (cs' := #[.string TA, .string TB, .string c, .slice ua un.length uc]) hB9 rfl)
    have HB1s := hide (set_else (c := G) (i := 1) (v := .string TB) (E9.kept (unhide HB1X)) (by omega))
    have F9 : Fr (fun q => q = G) w9 (w9.setCell ⟨G, 1, none⟩ (.string TB)) := Fr.setCell (S := fun q => q = G) (Fr.refl _ w9) (a := ⟨G, 1, none⟩) rfl _
    have HO9 := hide (((unhide HOX).ext E9).fr F9 (fun g hg e9 => by have := ((unhide HO).lt g hg).2; have := unhide HG; omega))
    have HE9 := hide (F9.ext ((unhide HEX).trans E9) (fun q hq => by omega))
    clear hB9 F9 E9 hcl HT2
    go_wp2_with (first
      | (refine wpList_load_blk rfl 46 _ rfl G rfl _ _ _ _ (unhide HBs) Tryd.underlying46 rfl infoL ?_)
      | (refine wpList_store_blk rfl 46 _ _ rfl rfl (w.heap.size + 1) rfl _ _ _ rfl (unhide HB1s) infoL rfl (by simp [Value.oneCell']) ?_; intro Z hy hf9; have HY := hide hy; have FY := hide hf9; clear hy hf9))
    have v0 : Z.cell? ⟨w.heap.size + 1, 0, none⟩ = some (.string TA) := cells_of (unhide HY) 0 _ rfl
    have v1 : Z.cell? ⟨w.heap.size + 1, 1, none⟩ = some (.string TB) := cells_of (unhide HY) 1 _ rfl
    have v2 : Z.cell? ⟨w.heap.size + 1, 2, none⟩ = some (.string c) := cells_of (unhide HY) 2 _ rfl
    have v3 : Z.cell? ⟨w.heap.size + 1, 3, none⟩ = some (.slice ua un.length uc) := cells_of (unhide HY) 3 _ rfl
    exact bodyPost_ret (v := .tuple #[.agg #[.string TA, .string TB, .string c, .slice ua un.length uc], .int .i64 1]) (by simp [results, Tryd.results135, go_sem, v0, v1, v2, v3]) rfl (by rw [unhide HXO]; exact ⟨⟨_, rfl, ((unhide HO9).fr (unhide FY) (fun g hg e9 => by have := ((unhide HO).lt g hg).1; omega)).mono (by omega)⟩, (unhide FY).ext (unhide HE9) (fun q hq => by omega)⟩)
end Go.Proofs.YtbieoijeilhadaaDoor

namespace Go.Proofs.YtbieoijeilhadaaDoor
open Go.RowKit
set_option linter.unusedSimpArgs false in
set_option maxRecDepth 10000 in
set_option maxHeartbeats 8000000 in
theorem l4Gone_4_no (a b c : ByteArray) (v : Value) (un : List (ByteArray × ByteArray)) (w : World) (hv : LnAt w v un) (hn : un.length ≤ 50) (za : a.size ≤ 1048576) (zb : b.size ≤ 1048576) (hN : (cutC (baL a)).length = 0) :
    Calls Tryd.prog 126 #[.agg #[.string a, .string b, .string c, v], .int .i64 4] w fun e w' => LnO w' w.heap.size ⟨a, b, c, un, 2⟩ e ∧ Ext w w' := by
  have infoL : (Tryd.prog.info? 46).map (·.size) = some 4 := by kernel_rfl
  have hcA := hide (fun W => l4Cut_any (baL a) (baL_bytes a) W (by rw [baL_len]; omega))
  have hcB := hide (fun W => l4Cut_any (baL b) (baL_bytes b) W (by rw [baL_len]; omega))
  rw [toBA_baL] at hcA hcB
  have HCA := hide (cuts_one (baL a))
  have HCB := hide (cuts_one (baL b))
  rw [baL_len] at HCA HCB
  have lA := cutC_len (baL a)
  have lB := cutC_len (baL b)
  rw [baL_len] at lA lB
  obtain ⟨ao, ca, rfl, _, _⟩ := id hv
  have HC := hide (fun W (E : Ext w W) => l4Copy_any a b c (.slice ao un.length ca) un.length (lnT un) (lnH un) W (Row2At.ext hv E) (by omega))
  have HS := hide (fun l r W (E : Ext w W) => l4Set_any a b c l r (.slice ao un.length ca) un.length (lnT un) (lnH un) W (Row2At.ext hv E) hn)
  rw [unL_ln] at HS
  clear hv
  obtain ⟨A, hA⟩ : ∃ A, A = cutC (baL a) := ⟨_, rfl⟩
  obtain ⟨B, hB⟩ : ∃ B, B = cutC (baL b) := ⟨_, rfl⟩
  rw [← hA] at hN
  rw [← hA] at hcA lA HCA
  rw [← hB] at hcB lB HCB
  obtain ⟨nA, hnA⟩ : ∃ n, A.length = n := ⟨_, rfl⟩
  obtain ⟨nB, hnB⟩ : ∃ n, B.length = n := ⟨_, rfl⟩
  rw [hnA] at lA
  rw [hnB] at lB
  rw [hnA] at hN
  subst hN
  have HNA := hide hnA
  have HNB := hide hnB
  have HXA := hide hA
  have HXB := hide hB
  clear hA hB hnA hnB
  obtain ⟨V, hV⟩ : ∃ V, V = (w.alloc (.cells #[.string a, .string b, .string c, .slice ao un.length ca] 46)).alloc (.cells #[.string { data := #[] }, .string { data := #[] }, .string { data := #[] }, .slice none 0 0] 46) := ⟨_, rfl⟩
  have E0 : Ext w V := by rw [hV]; exact ((Ext.refl w).alloc _).alloc _
  have HB0 : Hid (V.heap[w.heap.size]? = some (.cells #[.string a, .string b, .string c, .slice ao un.length ca] 46 (0, 0))) := hide (by rw [hV]; exact ((Ext.refl _).alloc _).kept (new_block w _))
  have HB1 : Hid (V.heap[w.heap.size + 1]? = some (.cells #[.string { data := #[] }, .string { data := #[] }, .string { data := #[] }, .slice none 0 0] 46 (0, 0))) := hide (by rw [hV]; have h := new_block (w.alloc (.cells #[.string a, .string b, .string c, .slice ao un.length ca] 46)) (.cells #[.string { data := #[] }, .string { data := #[] }, .string { data := #[] }, .slice none 0 0] 46); rw [show (w.alloc (.cells #[.string a, .string b, .string c, .slice ao un.length ca] 46)).heap.size = w.heap.size + 1 by simp] at h; exact h)
  have sz0 : w.heap.size + 1 < V.heap.size := lt_of_block (unhide HB1)
  have HW := hide hV
  have HE0 := hide E0
  clear hV E0
  go_enter Tryd.func126, Tryd.ntmps126
  go_wp2_with fail
  rw [← unhide HW]
  clear HW
  refine ((unhide hcA) _).mono ?_
  rintro e w2 ⟨v2, rs2, rfl, o2, E2⟩
  obtain ⟨a2, c2, rfl⟩ : ∃ a c, v2 = .slice a A.length c := by
    obtain ⟨_, ao, cc, e, _⟩ := o2.cls
    exact ⟨ao, cc, e⟩
  have H2 := hide o2
  rw [unhide HNA] at H2 ⊢
  replace HB0 := hide (E2.kept (unhide HB0))
  replace HB1 := hide (E2.kept (unhide HB1))
  replace HE0 := hide ((unhide HE0).trans E2)
  have q1 : w2.cell? ⟨w.heap.size, 1, none⟩ = some (.string b) := cells_of (unhide HB0) 1 _ rfl
  have z2 := E2.size
  clear o2 E2 hcA
  go_wp2_with fail
  refine ((unhide hcB) _).mono ?_
  rintro e w3 ⟨v3, rs3, rfl, o3, E3⟩
  obtain ⟨a3, c3, rfl⟩ : ∃ a c, v3 = .slice a B.length c := by
    obtain ⟨_, ao, cc, e, _⟩ := o3.cls
    exact ⟨ao, cc, e⟩
  have H3 := hide o3
  rw [unhide HNB] at H3 ⊢
  replace H2 := hide ((unhide H2).ext E3)
  replace HB0 := hide (E3.kept (unhide HB0))
  replace HB1 := hide (E3.kept (unhide HB1))
  replace HE0 := hide ((unhide HE0).trans E3)
  have z3 := E3.size
  clear o3 E3 hcB q1
  have HCc := hide ((unhide HC) w3 (unhide HE0))
  clear HC HS H2 H3 HXA HXB HNA HNB HCA HCB
  go_wp2_with (first
    | (refine wpList_load_blk rfl 46 _ rfl (w.heap.size) rfl _ _ _ _ (unhide HB0) Tryd.underlying46 rfl infoL ?_))
  refine (unhide HCc).mono ?_
  rintro e w5 ⟨ua, uc, rfl, HO, E5⟩
  replace HB1 := hide (E5.kept (unhide HB1))
  replace HE0 := hide ((unhide HE0).trans E5)
  clear E5 HB0 HCc
  go_wp2_with (first
    | (refine wpList_store_blk rfl 46 _ _ rfl rfl (w.heap.size + 1) rfl _ _ _ rfl (unhide HB1) infoL rfl (by simp [Value.oneCell']) ?_; intro Z hy hf9; have HY := hide hy; have FY := hide hf9; clear hy hf9))
  have v0 : Z.cell? ⟨w.heap.size + 1, 0, none⟩ = some (.string a) := cells_of (unhide HY) 0 _ rfl
  have v1 : Z.cell? ⟨w.heap.size + 1, 1, none⟩ = some (.string b) := cells_of (unhide HY) 1 _ rfl
  have v2 : Z.cell? ⟨w.heap.size + 1, 2, none⟩ = some (.string c) := cells_of (unhide HY) 2 _ rfl
  have v3 : Z.cell? ⟨w.heap.size + 1, 3, none⟩ = some (.slice ua un.length uc) := cells_of (unhide HY) 3 _ rfl
  exact bodyPost_ret (v := .tuple #[.agg #[.string a, .string b, .string c, .slice ua un.length uc], .int .i64 2]) (by simp [results, Tryd.results126, go_sem, v0, v1, v2, v3]) rfl (⟨⟨_, rfl, ((unhide HO).fr (unhide FY) (fun g hg e9 => by have := ((unhide HO).lt g hg).1; omega)).mono (by omega)⟩, (unhide FY).ext (unhide HE0) (fun q hq => by omega)⟩)
set_option linter.unusedSimpArgs false in
set_option maxRecDepth 10000 in
set_option maxHeartbeats 8000000 in
theorem l4Gone_5_end (a b c : ByteArray) (v : Value) (un : List (ByteArray × ByteArray)) (w : World) (hv : LnAt w v un) (hn : un.length ≤ 50) (za : a.size ≤ 1048576) (zb : b.size ≤ 1048576) (hN : (cutC (baL a)).length = 0 ∧ (cutC (baL b)).length = 0) :
    Calls Tryd.prog 126 #[.agg #[.string a, .string b, .string c, v], .int .i64 5] w fun e w' => LnO w' w.heap.size ⟨a, b, c, un, 8⟩ e ∧ Ext w w' := by
  have infoL : (Tryd.prog.info? 46).map (·.size) = some 4 := by kernel_rfl
  have hcA := hide (fun W => l4Cut_any (baL a) (baL_bytes a) W (by rw [baL_len]; omega))
  have hcB := hide (fun W => l4Cut_any (baL b) (baL_bytes b) W (by rw [baL_len]; omega))
  rw [toBA_baL] at hcA hcB
  have HCA := hide (cuts_one (baL a))
  have HCB := hide (cuts_one (baL b))
  rw [baL_len] at HCA HCB
  have lA := cutC_len (baL a)
  have lB := cutC_len (baL b)
  rw [baL_len] at lA lB
  obtain ⟨ao, ca, rfl, _, _⟩ := id hv
  have HC := hide (fun W (E : Ext w W) => l4Copy_any a b c (.slice ao un.length ca) un.length (lnT un) (lnH un) W (Row2At.ext hv E) (by omega))
  have HS := hide (fun l r W (E : Ext w W) => l4Set_any a b c l r (.slice ao un.length ca) un.length (lnT un) (lnH un) W (Row2At.ext hv E) hn)
  rw [unL_ln] at HS
  clear hv
  obtain ⟨A, hA⟩ : ∃ A, A = cutC (baL a) := ⟨_, rfl⟩
  obtain ⟨B, hB⟩ : ∃ B, B = cutC (baL b) := ⟨_, rfl⟩
  rw [← hA, ← hB] at hN
  rw [← hA] at hcA lA HCA
  rw [← hB] at hcB lB HCB
  obtain ⟨nA, hnA⟩ : ∃ n, A.length = n := ⟨_, rfl⟩
  obtain ⟨nB, hnB⟩ : ∃ n, B.length = n := ⟨_, rfl⟩
  rw [hnA] at lA
  rw [hnB] at lB
  rw [hnA, hnB] at hN
  obtain ⟨h0, h1⟩ := hN
  subst h0
  subst h1
  have HNA := hide hnA
  have HNB := hide hnB
  have HXA := hide hA
  have HXB := hide hB
  clear hA hB hnA hnB
  obtain ⟨V, hV⟩ : ∃ V, V = (w.alloc (.cells #[.string a, .string b, .string c, .slice ao un.length ca] 46)).alloc (.cells #[.string { data := #[] }, .string { data := #[] }, .string { data := #[] }, .slice none 0 0] 46) := ⟨_, rfl⟩
  have E0 : Ext w V := by rw [hV]; exact ((Ext.refl w).alloc _).alloc _
  have HB0 : Hid (V.heap[w.heap.size]? = some (.cells #[.string a, .string b, .string c, .slice ao un.length ca] 46 (0, 0))) := hide (by rw [hV]; exact ((Ext.refl _).alloc _).kept (new_block w _))
  have HB1 : Hid (V.heap[w.heap.size + 1]? = some (.cells #[.string { data := #[] }, .string { data := #[] }, .string { data := #[] }, .slice none 0 0] 46 (0, 0))) := hide (by rw [hV]; have h := new_block (w.alloc (.cells #[.string a, .string b, .string c, .slice ao un.length ca] 46)) (.cells #[.string { data := #[] }, .string { data := #[] }, .string { data := #[] }, .slice none 0 0] 46); rw [show (w.alloc (.cells #[.string a, .string b, .string c, .slice ao un.length ca] 46)).heap.size = w.heap.size + 1 by simp] at h; exact h)
  have sz0 : w.heap.size + 1 < V.heap.size := lt_of_block (unhide HB1)
  have HW := hide hV
  have HE0 := hide E0
  clear hV E0
  go_enter Tryd.func126, Tryd.ntmps126
  go_wp2_with fail
  rw [← unhide HW]
  clear HW
  refine ((unhide hcA) _).mono ?_
  rintro e w2 ⟨v2, rs2, rfl, o2, E2⟩
  obtain ⟨a2, c2, rfl⟩ : ∃ a c, v2 = .slice a A.length c := by
    obtain ⟨_, ao, cc, e, _⟩ := o2.cls
    exact ⟨ao, cc, e⟩
  have H2 := hide o2
  rw [unhide HNA] at H2 ⊢
  replace HB0 := hide (E2.kept (unhide HB0))
  replace HB1 := hide (E2.kept (unhide HB1))
  replace HE0 := hide ((unhide HE0).trans E2)
  have q1 : w2.cell? ⟨w.heap.size, 1, none⟩ = some (.string b) := cells_of (unhide HB0) 1 _ rfl
  have z2 := E2.size
  clear o2 E2 hcA
  go_wp2_with fail
  refine ((unhide hcB) _).mono ?_
  rintro e w3 ⟨v3, rs3, rfl, o3, E3⟩
  obtain ⟨a3, c3, rfl⟩ : ∃ a c, v3 = .slice a B.length c := by
    obtain ⟨_, ao, cc, e, _⟩ := o3.cls
    exact ⟨ao, cc, e⟩
  have H3 := hide o3
  rw [unhide HNB] at H3 ⊢
  replace H2 := hide ((unhide H2).ext E3)
  replace HB0 := hide (E3.kept (unhide HB0))
  replace HB1 := hide (E3.kept (unhide HB1))
  replace HE0 := hide ((unhide HE0).trans E3)
  have z3 := E3.size
  clear o3 E3 hcB q1
  have HCc := hide ((unhide HC) w3 (unhide HE0))
  clear HC HS H2 H3 HXA HXB HNA HNB HCA HCB
  go_wp2_with (first
    | (refine wpList_load_blk rfl 46 _ rfl (w.heap.size) rfl _ _ _ _ (unhide HB0) Tryd.underlying46 rfl infoL ?_))
  refine (unhide HCc).mono ?_
  rintro e w5 ⟨ua, uc, rfl, HO, E5⟩
  replace HB1 := hide (E5.kept (unhide HB1))
  replace HE0 := hide ((unhide HE0).trans E5)
  clear E5 HB0 HCc
  go_wp2_with (first
    | (refine wpList_store_blk rfl 46 _ _ rfl rfl (w.heap.size + 1) rfl _ _ _ rfl (unhide HB1) infoL rfl (by simp [Value.oneCell']) ?_; intro Z hy hf9; have HY := hide hy; have FY := hide hf9; clear hy hf9))
  have v0 : Z.cell? ⟨w.heap.size + 1, 0, none⟩ = some (.string a) := cells_of (unhide HY) 0 _ rfl
  have v1 : Z.cell? ⟨w.heap.size + 1, 1, none⟩ = some (.string b) := cells_of (unhide HY) 1 _ rfl
  have v2 : Z.cell? ⟨w.heap.size + 1, 2, none⟩ = some (.string c) := cells_of (unhide HY) 2 _ rfl
  have v3 : Z.cell? ⟨w.heap.size + 1, 3, none⟩ = some (.slice ua un.length uc) := cells_of (unhide HY) 3 _ rfl
  exact bodyPost_ret (v := .tuple #[.agg #[.string a, .string b, .string c, .slice ua un.length uc], .int .i64 8]) (by simp [results, Tryd.results126, go_sem, v0, v1, v2, v3]) rfl (⟨⟨_, rfl, ((unhide HO).fr (unhide FY) (fun g hg e9 => by have := ((unhide HO).lt g hg).1; omega)).mono (by omega)⟩, (unhide FY).ext (unhide HE0) (fun q hq => by omega)⟩)
set_option linter.unusedSimpArgs false in
set_option maxRecDepth 10000 in
set_option maxHeartbeats 8000000 in
theorem l4Gone_5_no (a b c : ByteArray) (v : Value) (un : List (ByteArray × ByteArray)) (w : World) (hv : LnAt w v un) (hn : un.length ≤ 50) (za : a.size ≤ 1048576) (zb : b.size ≤ 1048576) (hN : 0 < (cutC (baL a)).length ∧ (cutC (baL b)).length = 0) :
    Calls Tryd.prog 126 #[.agg #[.string a, .string b, .string c, v], .int .i64 5] w fun e w' => LnO w' w.heap.size ⟨a, b, c, un, 2⟩ e ∧ Ext w w' := by
  have infoL : (Tryd.prog.info? 46).map (·.size) = some 4 := by kernel_rfl
  have hcA := hide (fun W => l4Cut_any (baL a) (baL_bytes a) W (by rw [baL_len]; omega))
  have hcB := hide (fun W => l4Cut_any (baL b) (baL_bytes b) W (by rw [baL_len]; omega))
  rw [toBA_baL] at hcA hcB
  have HCA := hide (cuts_one (baL a))
  have HCB := hide (cuts_one (baL b))
  rw [baL_len] at HCA HCB
  have lA := cutC_len (baL a)
  have lB := cutC_len (baL b)
  rw [baL_len] at lA lB
  obtain ⟨ao, ca, rfl, _, _⟩ := id hv
  have HC := hide (fun W (E : Ext w W) => l4Copy_any a b c (.slice ao un.length ca) un.length (lnT un) (lnH un) W (Row2At.ext hv E) (by omega))
  have HS := hide (fun l r W (E : Ext w W) => l4Set_any a b c l r (.slice ao un.length ca) un.length (lnT un) (lnH un) W (Row2At.ext hv E) hn)
  rw [unL_ln] at HS
  clear hv
  obtain ⟨A, hA⟩ : ∃ A, A = cutC (baL a) := ⟨_, rfl⟩
  obtain ⟨B, hB⟩ : ∃ B, B = cutC (baL b) := ⟨_, rfl⟩
  rw [← hA, ← hB] at hN
  rw [← hA] at hcA lA HCA
  rw [← hB] at hcB lB HCB
  obtain ⟨nA, hnA⟩ : ∃ n, A.length = n := ⟨_, rfl⟩
  obtain ⟨nB, hnB⟩ : ∃ n, B.length = n := ⟨_, rfl⟩
  rw [hnA] at lA
  rw [hnB] at lB
  rw [hnA, hnB] at hN
  obtain ⟨h0, h1⟩ := hN
  subst h1
  have h2 : ¬ (nA : Int) = 0 := by omega
  have h3 : ¬ nA = 0 := by omega
  have h4 : ((nA : Int) == 0) = false := by simp; omega
  have HNA := hide hnA
  have HNB := hide hnB
  have HXA := hide hA
  have HXB := hide hB
  clear hA hB hnA hnB
  obtain ⟨V, hV⟩ : ∃ V, V = (w.alloc (.cells #[.string a, .string b, .string c, .slice ao un.length ca] 46)).alloc (.cells #[.string { data := #[] }, .string { data := #[] }, .string { data := #[] }, .slice none 0 0] 46) := ⟨_, rfl⟩
  have E0 : Ext w V := by rw [hV]; exact ((Ext.refl w).alloc _).alloc _
  have HB0 : Hid (V.heap[w.heap.size]? = some (.cells #[.string a, .string b, .string c, .slice ao un.length ca] 46 (0, 0))) := hide (by rw [hV]; exact ((Ext.refl _).alloc _).kept (new_block w _))
  have HB1 : Hid (V.heap[w.heap.size + 1]? = some (.cells #[.string { data := #[] }, .string { data := #[] }, .string { data := #[] }, .slice none 0 0] 46 (0, 0))) := hide (by rw [hV]; have h := new_block (w.alloc (.cells #[.string a, .string b, .string c, .slice ao un.length ca] 46)) (.cells #[.string { data := #[] }, .string { data := #[] }, .string { data := #[] }, .slice none 0 0] 46); rw [show (w.alloc (.cells #[.string a, .string b, .string c, .slice ao un.length ca] 46)).heap.size = w.heap.size + 1 by simp] at h; exact h)
  have sz0 : w.heap.size + 1 < V.heap.size := lt_of_block (unhide HB1)
  have HW := hide hV
  have HE0 := hide E0
  clear hV E0
  go_enter Tryd.func126, Tryd.ntmps126
  go_wp2_with fail
  rw [← unhide HW]
  clear HW
  refine ((unhide hcA) _).mono ?_
  rintro e w2 ⟨v2, rs2, rfl, o2, E2⟩
  obtain ⟨a2, c2, rfl⟩ : ∃ a c, v2 = .slice a A.length c := by
    obtain ⟨_, ao, cc, e, _⟩ := o2.cls
    exact ⟨ao, cc, e⟩
  have H2 := hide o2
  rw [unhide HNA] at H2 ⊢
  replace HB0 := hide (E2.kept (unhide HB0))
  replace HB1 := hide (E2.kept (unhide HB1))
  replace HE0 := hide ((unhide HE0).trans E2)
  have q1 : w2.cell? ⟨w.heap.size, 1, none⟩ = some (.string b) := cells_of (unhide HB0) 1 _ rfl
  have z2 := E2.size
  clear o2 E2 hcA
  go_wp2_with fail
  refine ((unhide hcB) _).mono ?_
  rintro e w3 ⟨v3, rs3, rfl, o3, E3⟩
  obtain ⟨a3, c3, rfl⟩ : ∃ a c, v3 = .slice a B.length c := by
    obtain ⟨_, ao, cc, e, _⟩ := o3.cls
    exact ⟨ao, cc, e⟩
  have H3 := hide o3
  rw [unhide HNB] at H3 ⊢
  replace H2 := hide ((unhide H2).ext E3)
  replace HB0 := hide (E3.kept (unhide HB0))
  replace HB1 := hide (E3.kept (unhide HB1))
  replace HE0 := hide ((unhide HE0).trans E3)
  have z3 := E3.size
  clear o3 E3 hcB q1
  have HCc := hide ((unhide HC) w3 (unhide HE0))
  clear HC HS H2 H3 HXA HXB HNA HNB HCA HCB
  go_wp2_with (first
    | (refine wpList_load_blk rfl 46 _ rfl (w.heap.size) rfl _ _ _ _ (unhide HB0) Tryd.underlying46 rfl infoL ?_))
  refine (unhide HCc).mono ?_
  rintro e w5 ⟨ua, uc, rfl, HO, E5⟩
  replace HB1 := hide (E5.kept (unhide HB1))
  replace HE0 := hide ((unhide HE0).trans E5)
  clear E5 HB0 HCc
  go_wp2_with (first
    | (refine wpList_store_blk rfl 46 _ _ rfl rfl (w.heap.size + 1) rfl _ _ _ rfl (unhide HB1) infoL rfl (by simp [Value.oneCell']) ?_; intro Z hy hf9; have HY := hide hy; have FY := hide hf9; clear hy hf9))
  have v0 : Z.cell? ⟨w.heap.size + 1, 0, none⟩ = some (.string a) := cells_of (unhide HY) 0 _ rfl
  have v1 : Z.cell? ⟨w.heap.size + 1, 1, none⟩ = some (.string b) := cells_of (unhide HY) 1 _ rfl
  have v2 : Z.cell? ⟨w.heap.size + 1, 2, none⟩ = some (.string c) := cells_of (unhide HY) 2 _ rfl
  have v3 : Z.cell? ⟨w.heap.size + 1, 3, none⟩ = some (.slice ua un.length uc) := cells_of (unhide HY) 3 _ rfl
  exact bodyPost_ret (v := .tuple #[.agg #[.string a, .string b, .string c, .slice ua un.length uc], .int .i64 2]) (by simp [results, Tryd.results126, go_sem, v0, v1, v2, v3]) rfl (⟨⟨_, rfl, ((unhide HO).fr (unhide FY) (fun g hg e9 => by have := ((unhide HO).lt g hg).1; omega)).mono (by omega)⟩, (unhide FY).ext (unhide HE0) (fun q hq => by omega)⟩)
end Go.Proofs.YtbieoijeilhadaaDoor

namespace Go.Proofs.YtbieoijeilhadaaDoor
open Go.RowKit
set_option linter.unusedSimpArgs false in
set_option maxRecDepth 10000 in
set_option maxHeartbeats 8000000 in
theorem l4Gone_4_yes (a b c : ByteArray) (v : Value) (un : List (ByteArray × ByteArray)) (w : World) (hv : LnAt w v un) (hn : un.length ≤ 50) (za : a.size ≤ 1048576) (zb : b.size ≤ 1048576) (hN : 0 < (cutC (baL a)).length) :
    Calls Tryd.prog 126 #[.agg #[.string a, .string b, .string c, v], .int .i64 4] w fun e w' => LnO w' w.heap.size (edSet a b c un (toBA (textC ((cutC (baL a)).take ((cutC (baL a)).length - 1)))) b) e ∧ Ext w w' := by
  have infoL : (Tryd.prog.info? 46).map (·.size) = some 4 := by kernel_rfl
  have hcA := hide (fun W => l4Cut_any (baL a) (baL_bytes a) W (by rw [baL_len]; omega))
  have hcB := hide (fun W => l4Cut_any (baL b) (baL_bytes b) W (by rw [baL_len]; omega))
  rw [toBA_baL] at hcA hcB
  have HCA := hide (cuts_one (baL a))
  have HCB := hide (cuts_one (baL b))
  rw [baL_len] at HCA HCB
  have lA := cutC_len (baL a)
  have lB := cutC_len (baL b)
  rw [baL_len] at lA lB
  obtain ⟨ao, ca, rfl, _, _⟩ := id hv
  have HC := hide (fun W (E : Ext w W) => l4Copy_any a b c (.slice ao un.length ca) un.length (lnT un) (lnH un) W (Row2At.ext hv E) (by omega))
  have HS := hide (fun l r W (E : Ext w W) => l4Set_any a b c l r (.slice ao un.length ca) un.length (lnT un) (lnH un) W (Row2At.ext hv E) hn)
  rw [unL_ln] at HS
  clear hv
  obtain ⟨A, hA⟩ : ∃ A, A = cutC (baL a) := ⟨_, rfl⟩
  obtain ⟨B, hB⟩ : ∃ B, B = cutC (baL b) := ⟨_, rfl⟩
  rw [← hA] at hN
  rw [← hA] at hcA lA HCA
  rw [← hB] at hcB lB HCB
  obtain ⟨nA, hnA⟩ : ∃ n, A.length = n := ⟨_, rfl⟩
  obtain ⟨nB, hnB⟩ : ∃ n, B.length = n := ⟨_, rfl⟩
  rw [hnA] at lA
  rw [hnB] at lB
  rw [hnA] at hN
  have HNA := hide hnA
  have HNB := hide hnB
  have HXA := hide hA
  have HXB := hide hB
  clear hA hB hnA hnB
  obtain ⟨V, hV⟩ : ∃ V, V = (w.alloc (.cells #[.string a, .string b, .string c, .slice ao un.length ca] 46)).alloc (.cells #[.string { data := #[] }, .string { data := #[] }, .string { data := #[] }, .slice none 0 0] 46) := ⟨_, rfl⟩
  have E0 : Ext w V := by rw [hV]; exact ((Ext.refl w).alloc _).alloc _
  have HB0 : Hid (V.heap[w.heap.size]? = some (.cells #[.string a, .string b, .string c, .slice ao un.length ca] 46 (0, 0))) := hide (by rw [hV]; exact ((Ext.refl _).alloc _).kept (new_block w _))
  have HB1 : Hid (V.heap[w.heap.size + 1]? = some (.cells #[.string { data := #[] }, .string { data := #[] }, .string { data := #[] }, .slice none 0 0] 46 (0, 0))) := hide (by rw [hV]; have h := new_block (w.alloc (.cells #[.string a, .string b, .string c, .slice ao un.length ca] 46)) (.cells #[.string { data := #[] }, .string { data := #[] }, .string { data := #[] }, .slice none 0 0] 46); rw [show (w.alloc (.cells #[.string a, .string b, .string c, .slice ao un.length ca] 46)).heap.size = w.heap.size + 1 by simp] at h; exact h)
  have sz0 : w.heap.size + 1 < V.heap.size := lt_of_block (unhide HB1)
  have HW := hide hV
  have HE0 := hide E0
  clear hV E0
  go_enter Tryd.func126, Tryd.ntmps126
  go_wp2_with fail
  rw [← unhide HW]
  clear HW
  refine ((unhide hcA) _).mono ?_
  rintro e w2 ⟨v2, rs2, rfl, o2, E2⟩
  obtain ⟨a2, c2, rfl⟩ : ∃ a c, v2 = .slice a A.length c := by
    obtain ⟨_, ao, cc, e, _⟩ := o2.cls
    exact ⟨ao, cc, e⟩
  have H2 := hide o2
  rw [unhide HNA] at H2 ⊢
  replace HB0 := hide (E2.kept (unhide HB0))
  replace HB1 := hide (E2.kept (unhide HB1))
  replace HE0 := hide ((unhide HE0).trans E2)
  have q1 : w2.cell? ⟨w.heap.size, 1, none⟩ = some (.string b) := cells_of (unhide HB0) 1 _ rfl
  have z2 := E2.size
  clear o2 E2 hcA
  go_wp2_with fail
  refine ((unhide hcB) _).mono ?_
  rintro e w3 ⟨v3, rs3, rfl, o3, E3⟩
  obtain ⟨a3, c3, rfl⟩ : ∃ a c, v3 = .slice a B.length c := by
    obtain ⟨_, ao, cc, e, _⟩ := o3.cls
    exact ⟨ao, cc, e⟩
  have H3 := hide o3
  rw [unhide HNB] at H3 ⊢
  replace H2 := hide ((unhide H2).ext E3)
  replace HB0 := hide (E3.kept (unhide HB0))
  replace HB1 := hide (E3.kept (unhide HB1))
  replace HE0 := hide ((unhide HE0).trans E3)
  have z3 := E3.size
  clear o3 E3 hcB q1
  have h2 : (0 : Int) < (nA : Int) := by omega
  obtain ⟨p, hp⟩ : ∃ p, nA - 1 = p := ⟨_, rfl⟩
  have hw : IntKind.i64.wrap ((nA : Int) - 1) = (p : Int) := by rw [IntKind.wrap_i64]; omega
  have hc2 : nA ≤ c2 := by
    obtain ⟨_, _, _, e9, h9, _⟩ := (unhide H2).cls
    obtain ⟨_, _, rfl⟩ := Value.slice.inj e9
    rw [unhide HNA] at h9
    exact h9
  have b1 : (p : Int) ≤ (c2 : Int) := by omega
  have b2 : (0 : Int) ≤ (p : Int) := by omega
  obtain ⟨g2, hg2⟩ : ∃ g, a2 = some ⟨g, 0, none⟩ := by
    obtain ⟨_, ⟨ys, hy, _⟩, _⟩ := unhide H2
    rcases hy.2 with ⟨_, e0⟩ | ⟨g, cc, cur, e0, _⟩
    · rw [unhide HNA] at e0; omega
    · exact ⟨g, (Value.slice.inj e0).1⟩
  subst hg2
  have HT := hide (fun v W (hv : ClsAt W v (A.take p)) => specTextOf_any v _ W hv (by have := ((unhide HCA).part 0 p).1; simp at this ⊢; omega) (fun j _ => by have := ((unhide HCA).part 0 p).2 j; simpa using this))
  obtain ⟨TA, hTA⟩ : ∃ x, x = toBA (textC (A.take p)) := ⟨_, rfl⟩
  rw [← hTA] at HT
  have HXO : Hid (edSet a b c un (toBA (textC ((cutC (baL a)).take ((cutC (baL a)).length - 1)))) b = ⟨TA, b, c, undoN un (a, b), 1⟩) := hide (by rw [hTA, ← unhide HXA, unhide HNA, hp]; rfl)
  have HCl : Hid (ClsAt w3 (.slice (some ⟨g2, 0, none⟩) p c2) (A.take p)) := hide (by
    have hcl := (unhide H2).cls
    rw [← unhide HNA] at hcl
    have := hcl.cut 0 p c2 (Nat.zero_le _) (by rw [unhide HNA]; omega) (by omega) (some ⟨g2, 0, none⟩) (.inl rfl)
    simpa using this)
  have q0 : w3.cell? ⟨w.heap.size, 0, none⟩ = some (.string a) ∧ w3.cell? ⟨w.heap.size, 1, none⟩ = some (.string b) ∧ w3.cell? ⟨w.heap.size, 2, none⟩ = some (.string c) ∧ w3.cell? ⟨w.heap.size, 3, none⟩ = some (.slice ao un.length ca) := ⟨cells_of (unhide HB0) 0 _ rfl, cells_of (unhide HB0) 1 _ rfl, cells_of (unhide HB0) 2 _ rfl, cells_of (unhide HB0) 3 _ rfl⟩
  clear hTA hp H2 H3 HC
  go_wp2_with fail
  refine wp_region_held_drew (S := fun W => W.cell? ⟨w.heap.size, 0, none⟩ = some (.string a) ∧ W.cell? ⟨w.heap.size, 1, none⟩ = some (.string b) ∧ W.cell? ⟨w.heap.size, 2, none⟩ = some (.string c) ∧ W.cell? ⟨w.heap.size, 3, none⟩ = some (.slice ao un.length ca)) (by kernel_rfl) q0 (fun hHeld => ?_)
  refine wpAnyH_take (i := 0) (v := ?_) rfl (by kernel_rfl) (by kernel_rfl) (by kernel_rfl) (fun _ _ _ h => h) (Or.inl ⟨by rfl, ?_⟩) (by assumption) ?_
  rotate_left
  · intro w' hSw; go_simp <;> with_reducible rfl
  simp only [Act.put, qA, qB, qC, qD, qE, qF]
  refine wpAnyH_take (i := 1) (v := ?_) rfl (by kernel_rfl) (by kernel_rfl) (by kernel_rfl) (fun _ _ _ h => h) (Or.inl ⟨by rfl, ?_⟩) (by assumption) ?_
  rotate_left
  · intro w' hSw; go_simp <;> with_reducible rfl
  simp only [Act.put, qA, qB, qC, qD, qE, qF]
  refine wpAnyH_take (i := 2) (v := ?_) rfl (by kernel_rfl) (by kernel_rfl) (by kernel_rfl) (fun _ _ _ h => h) (Or.inl ⟨by rfl, ?_⟩) (by assumption) ?_
  rotate_left
  · intro w' hSw; go_simp <;> with_reducible rfl
  simp only [Act.put, qA, qB, qC, qD, qE, qF]
  refine wpAnyH_take (i := 3) (v := ?_) rfl (by kernel_rfl) (by kernel_rfl) (by kernel_rfl) (fun _ _ _ h => h) (Or.inl ⟨by rfl, ?_⟩) (by assumption) ?_
  rotate_left
  · intro w' hSw; go_simp <;> with_reducible rfl
  simp only [Act.put, qA, qB, qC, qD, qE, qF]
  refine wpAnyH_take (i := 4) (v := ?_) rfl (by kernel_rfl) (by kernel_rfl) (by kernel_rfl) (fun _ _ _ h => h) (Or.inl ⟨by rfl, ?_⟩) (by assumption) ?_
  rotate_left
  · intro w' hSw; go_simp <;> with_reducible rfl
  simp only [Act.put, qA, qB, qC, qD, qE, qF]
  refine wpAnyH_take (i := 5) (v := ?_) rfl (by kernel_rfl) (by kernel_rfl) (by kernel_rfl) (fun _ _ _ h => h) (Or.inl ⟨by rfl, ?_⟩) (by assumption) ?_
  rotate_left
  · intro w' hSw; go_simp <;> with_reducible rfl
  simp only [Act.put, qA, qB, qC, qD, qE, qF]
  refine wpAnyH_take (i := 7) (v := ?_) rfl (by kernel_rfl) (by kernel_rfl) (by kernel_rfl) (fun _ _ _ h => h) (Or.inl ⟨by rfl, ?_⟩) (by assumption) ?_
  rotate_left
  · intro w' hSw; go_simp <;> with_reducible rfl
  simp only [Act.put, qA, qB, qC, qD, qE, qF]
  refine wpAnyH_take (i := 8) (v := ?_) rfl (by kernel_rfl) (by kernel_rfl) (by kernel_rfl) (fun _ _ _ h => h) (Or.inl ⟨by rfl, ?_⟩) (by assumption) ?_
  rotate_left
  · intro w' hSw; go_simp <;> with_reducible rfl
  simp only [Act.put, qA, qB, qC, qD, qE, qF]
  refine wpAnyH_ready (rs := [6]) (by kernel_rfl) (by simp) ?_
  refine AllReadyH.cons rfl (fun K hK => ?_) AllReadyH.nil
  go_simp
  go_wp2_with (go_at_call 56; refine ((unhide HT) _ _ ((unhide HCl).ext (by first | exact Ext.refl _ | exact (Ext.refl _).drew))).mono ?_; rintro e w4 ⟨rfl, E4⟩; have F4 : Ext w3 w4 := (by first | exact E4 | exact (Ext.refl _).drew.trans E4); have d0 := F4.kept (unhide HB0); clear E4)
  refine hK.out _ _ ⟨cells_of d0 0 _ rfl, cells_of d0 1 _ rfl, cells_of d0 2 _ rfl, cells_of d0 3 _ rfl⟩ (fun hHeld => ?_)
  clear hK K
  refine wpAnyH_ready (rs := [9]) (by kernel_rfl) (by simp) ?_
  refine AllReadyH.cons rfl (fun K hK => ?_) AllReadyH.nil
  go_simp
  go_wp2_with (go_at_call 112; refine ((unhide HS) _ _ _ ((unhide HE0).trans F4)).mono ?_; rintro e w5 ⟨v5, rfl, hO, E5⟩; obtain ⟨ua, uc, rfl⟩ : ∃ ua uc, v5 = .slice ua (undoN un (a, b)).length uc := (by obtain ⟨x, y, e, _⟩ := hO.reads; exact ⟨x, y, e⟩); have HO5 := hide hO; have HB05 := hide (E5.kept (F4.kept (unhide HB0))); have HB15 := hide (E5.kept (F4.kept (unhide HB1))); have HE5 := hide (((unhide HE0).trans F4).trans E5); have s5 := ((unhide HE0).trans F4).size; have s6 := F4.size; clear hO E5)
  refine hK.out _ _ ⟨cells_of (unhide HB05) 0 _ rfl, cells_of (unhide HB05) 1 _ rfl, cells_of (unhide HB05) 2 _ rfl, cells_of (unhide HB05) 3 _ rfl⟩ (fun hHeld => ?_)
  clear hK K
  refine wpAnyH_ready (rs := [10]) (by kernel_rfl) (by simp) ?_
  refine AllReadyH.cons rfl (fun K hK => ?_) AllReadyH.nil
  refine wp_store_blk 46 _ _ rfl rfl (w.heap.size + 1) rfl _ _ #[.string TA, .string b, .string c, .slice ua (undoN un (a, b)).length uc] rfl (unhide HB15) infoL rfl (by simp [Value.oneCell']) ?_
  intro Z hy hf9
  have hb9 := hf9.kept (unhide HB05) (by omega)
  refine hK.out _ _ ⟨cells_of hb9 0 _ rfl, cells_of hb9 1 _ rfl, cells_of hb9 2 _ rfl, cells_of hb9 3 _ rfl⟩ (fun hHeld => ?_)
  have HY := hide hy
  have FY := hide hf9
  clear hK K hy hf9 hb9
  refine wpAnyH_take (i := 11) (v := ?_) rfl (by kernel_rfl) (by kernel_rfl) (by kernel_rfl) (fun _ _ _ h => h) (Or.inl ⟨by rfl, ?_⟩) (by assumption) ?_
  rotate_left
  · intro w' hSw; go_simp <;> with_reducible rfl
  simp only [Act.put, qA, qB, qC, qD, qE, qF]
  refine wpAnyH_done (by kernel_rfl) ?_ _
  go_wp2
  have v0 : Z.cell? ⟨w.heap.size + 1, 0, none⟩ = some (.string TA) := cells_of (unhide HY) 0 _ rfl
  have v1 : Z.cell? ⟨w.heap.size + 1, 1, none⟩ = some (.string b) := cells_of (unhide HY) 1 _ rfl
  have v2 : Z.cell? ⟨w.heap.size + 1, 2, none⟩ = some (.string c) := cells_of (unhide HY) 2 _ rfl
  have v3 : Z.cell? ⟨w.heap.size + 1, 3, none⟩ = some (.slice ua (undoN un (a, b)).length uc) := cells_of (unhide HY) 3 _ rfl
  exact bodyPost_ret (v := .tuple #[.agg #[.string TA, .string b, .string c, .slice ua (undoN un (a, b)).length uc], .int .i64 1]) (by simp [results, Tryd.results126, go_sem, v0, v1, v2, v3]) rfl (by rw [unhide HXO]; exact ⟨⟨_, rfl, ((unhide HO5).fr (unhide FY) (fun g hg e9 => by have := ((unhide HO5).lt g hg).1; omega)).mono (by omega)⟩, (unhide FY).ext (unhide HE5) (fun q hq => by omega)⟩)
end Go.Proofs.YtbieoijeilhadaaDoor
