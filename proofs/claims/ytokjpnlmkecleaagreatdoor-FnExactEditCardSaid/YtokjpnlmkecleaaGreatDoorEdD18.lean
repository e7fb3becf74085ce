import Derived.Test.YtokjpnlmkecleaaGreatDoorGap
import Derived.Test.YtokjpnlmkecleaaGreatDoorEdK
namespace Go.Proofs.YtokjpnlmkecleaaGreatDoor
open Go.RowKit

set_option maxRecDepth 10000 in
set_option maxHeartbeats 8000000 in
theorem l4Moved_7_no (a b c : ByteArray) (v : Value) (un : List (ByteArray × ByteArray)) (w : World) (hv : LnAt w v un) (za : a.size ≤ 1048576) (zb : b.size ≤ 1048576) (XA XB : ByteArray) (N : Int) (hw : IntKind.i64.wrap (((cutC (baL a)).length : Int) + 1) = N ∧ ¬ N = -2) (HM : ∀ W u, Ext w W → LnAt W u un → Calls Tryz.prog 65 #[.agg #[.string a, .string b, .string c, u], .int .i64 N] W fun e w' => LnO w' W.heap.size ⟨XA, XB, c, un, 2⟩ e ∧ Ext W w') :
    Calls Tryz.prog 31 #[.agg #[.string a, .string b, .string c, v], .int .i64 7] w fun e w' => LnO w' w.heap.size ⟨XA, XB, c, un, 2⟩ e ∧ Ext w w' := by
  have infoL : (Tryz.prog.info? 25).map (·.size) = some 4 := by kernel_rfl
  have hcA := hide (fun W => l4Cut_any (baL a) (baL_bytes a) W (by rw [baL_len]; omega))
  have hcB := hide (fun W => l4Cut_any (baL b) (baL_bytes b) W (by rw [baL_len]; omega))
  rw [toBA_baL] at hcA hcB
  have lA := cutC_len (baL a)
  have lB := cutC_len (baL b)
  rw [baL_len] at lA lB
  obtain ⟨ao, ca, rfl, _, _⟩ := id hv
  have HMv := hide (fun W (E : Ext w W) => HM W _ E (hv.ext E))
  obtain ⟨hw1, hw2⟩ := hw
  clear hv HM
  obtain ⟨A, hA⟩ : ∃ A, A = cutC (baL a) := ⟨_, rfl⟩
  obtain ⟨B, hB⟩ : ∃ B, B = cutC (baL b) := ⟨_, rfl⟩
  rw [← hA] at hcA lA hw1
  rw [← hB] at hcB lB
  obtain ⟨nA, hnA⟩ : ∃ n, A.length = n := ⟨_, rfl⟩
  obtain ⟨nB, hnB⟩ : ∃ n, B.length = n := ⟨_, rfl⟩
  rw [hnA] at hw1
  have HNA := hide hnA
  have HNB := hide hnB
  clear hA hB hnA hnB
  obtain ⟨V, hV⟩ : ∃ V, V = (w.alloc (.cells #[.string a, .string b, .string c, .slice ao un.length ca] 25)).alloc (.cells #[.string { data := #[] }, .string { data := #[] }, .string { data := #[] }, .slice none 0 0] 25) := ⟨_, rfl⟩
  have E0 : Ext w V := by rw [hV]; exact ((Ext.refl w).alloc _).alloc _
  have HB0 : Hid (V.heap[w.heap.size]? = some (.cells #[.string a, .string b, .string c, .slice ao un.length ca] 25 (0, 0))) := hide (by rw [hV]; exact ((Ext.refl _).alloc _).kept (new_block w _))
  have HB1 : Hid (V.heap[w.heap.size + 1]? = some (.cells #[.string { data := #[] }, .string { data := #[] }, .string { data := #[] }, .slice none 0 0] 25 (0, 0))) := hide (by rw [hV]; have h := new_block (w.alloc (.cells #[.string a, .string b, .string c, .slice ao un.length ca] 25)) (.cells #[.string { data := #[] }, .string { data := #[] }, .string { data := #[] }, .slice none 0 0] 25); rw [show (w.alloc (.cells #[.string a, .string b, .string c, .slice ao un.length ca] 25)).heap.size = w.heap.size + 1 by simp] at h; exact h)
  have sz0 : w.heap.size + 1 < V.heap.size := lt_of_block (unhide HB1)
  have HW := hide hV
  have HE0 := hide E0
  clear hV E0
  go_enter Tryz.func31, Tryz.ntmps31
  go_wp2_with fail
  rw [← unhide HW]
  clear HW
  refine ((unhide hcA) _).mono ?_
  rintro e w2 ⟨v2, rs2, rfl, o2, E2⟩
  obtain ⟨a2, c2, rfl⟩ : ∃ a c, v2 = .slice a A.length c := by
    obtain ⟨_, ao, cc, e, _⟩ := o2.cls
    exact ⟨ao, cc, e⟩
  have H2 := hide o2.cls
  rw [unhide HNA] at H2 ⊢
  replace HB0 := hide (E2.kept (unhide HB0))
  replace HB1 := hide (E2.kept (unhide HB1))
  replace HE0 := hide ((unhide HE0).trans E2)
  have q1 : w2.cell? ⟨w.heap.size, 1, none⟩ = some (.string b) := cells_of (unhide HB0) 1 _ rfl
  have z2 := E2.size
  clear o2 E2 hcA
  go_wp2_with fail
  refine ((unhide hcB) _).mono ?_
  rintro e w3 ⟨v3, rs3, rfl, o3, E3⟩
  obtain ⟨a3, c3, rfl⟩ : ∃ a c, v3 = .slice a B.length c := by
    obtain ⟨_, ao, cc, e, _⟩ := o3.cls
    exact ⟨ao, cc, e⟩
  have H3 := hide o3.cls
  rw [unhide HNB] at H3 ⊢
  replace H2 := hide ((unhide H2).ext E3)
  replace HB0 := hide (E3.kept (unhide HB0))
  replace HB1 := hide (E3.kept (unhide HB1))
  replace HE0 := hide ((unhide HE0).trans E3)
  have z3 := E3.size
  clear o3 E3 hcB q1
  have HMc := hide ((unhide HMv) w3 (unhide HE0))
  clear HMv H2 H3 HNA HNB
  go_wp2_with (first
    | (refine wpList_load_blk rfl 25 _ rfl (w.heap.size) rfl _ _ _ _ (unhide HB0) Tryz.underlying25 rfl infoL ?_))
  refine (unhide HMc).mono ?_
  rintro e w5 ⟨⟨v5, rfl, hl5⟩, E5⟩
  obtain ⟨ua, uc, rfl⟩ : ∃ ua uc, v5 = .slice ua un.length uc := by
    obtain ⟨x, y, e, _⟩ := hl5.reads
    exact ⟨x, y, e⟩
  have HL5 := hide hl5
  replace HB1 := hide (E5.kept (unhide HB1))
  replace HE0 := hide ((unhide HE0).trans E5)
  have HN := hide (heap_alloc_new w5 (.cells #[.string { data := #[] }, .string { data := #[] }, .string { data := #[] }, .slice none 0 0] 25))
  have hz5 : w.heap.size + 1 < w5.heap.size := lt_of_block (unhide HB1)
  clear HMc E5 hl5 HB0
  dsimp only
  go_wp2_with (first
    | (refine wpList_store_blk rfl 25 _ _ rfl rfl (w5.heap.size) rfl _ _ _ rfl (unhide HN) infoL rfl (by simp [Value.oneCell']) ?_; intro U hB hU; have hU1 := hU.ext ((Ext.refl w5).alloc _) (fun q hq => by omega); have HEU := hide hU1; have HBU := hide hB; have HB1s := hide (hU1.kept (unhide HB1)); clear hB hU hU1)
    | (refine wpList_load_blk rfl 25 _ rfl (w5.heap.size) rfl _ _ _ _ (unhide HBU) Tryz.underlying25 rfl infoL ?_)
    | (refine wpList_store_blk rfl 25 _ _ rfl rfl (w.heap.size + 1) rfl _ _ _ rfl (unhide HB1s) infoL rfl (by simp [Value.oneCell']) ?_; intro Z hy hf9; have HY := hide hy; have FY := hide hf9; clear hy hf9))
  have v0 : Z.cell? ⟨w.heap.size + 1, 0, none⟩ = some (.string XA) := cells_of (unhide HY) 0 _ rfl
  have v1 : Z.cell? ⟨w.heap.size + 1, 1, none⟩ = some (.string XB) := cells_of (unhide HY) 1 _ rfl
  have v2 : Z.cell? ⟨w.heap.size + 1, 2, none⟩ = some (.string c) := cells_of (unhide HY) 2 _ rfl
  have v3 : Z.cell? ⟨w.heap.size + 1, 3, none⟩ = some (.slice ua un.length uc) := cells_of (unhide HY) 3 _ rfl
  exact bodyPost_ret (v := .tuple #[.agg #[.string XA, .string XB, .string c, .slice ua un.length uc], .int .i64 2]) (by simp [results, Tryz.results31, go_sem, v0, v1, v2, v3]) rfl ⟨⟨_, rfl, (((unhide HL5).ext (unhide HEU)).fr (unhide FY) (fun g hg e9 => by have := ((unhide HL5).lt g hg).1; omega)).mono (by omega)⟩, (unhide FY).ext ((unhide HE0).trans (unhide HEU)) (fun q hq => by omega)⟩
set_option maxRecDepth 10000 in
set_option maxHeartbeats 8000000 in
theorem l4Moved_7_yes (a b c : ByteArray) (v : Value) (un : List (ByteArray × ByteArray)) (w : World) (hv : LnAt w v un) (za : a.size ≤ 1048576) (zb : b.size ≤ 1048576) (XA XB : ByteArray) (N : Int) (hw : IntKind.i64.wrap (((cutC (baL a)).length : Int) + 1) = N ∧ ¬ N = -2) (HM : ∀ W u, Ext w W → LnAt W u un → Calls Tryz.prog 65 #[.agg #[.string a, .string b, .string c, u], .int .i64 N] W fun e w' => LnO w' W.heap.size ⟨XA, XB, c, un, 1⟩ e ∧ Ext W w') :
    Calls Tryz.prog 31 #[.agg #[.string a, .string b, .string c, v], .int .i64 7] w fun e w' => LnO w' w.heap.size ⟨XA, XB, c, un, 1⟩ e ∧ Ext w w' := by
  have infoL : (Tryz.prog.info? 25).map (·.size) = some 4 := by kernel_rfl
  have hcA := hide (fun W => l4Cut_any (baL a) (baL_bytes a) W (by rw [baL_len]; omega))
  have hcB := hide (fun W => l4Cut_any (baL b) (baL_bytes b) W (by rw [baL_len]; omega))
  rw [toBA_baL] at hcA hcB
  have lA := cutC_len (baL a)
  have lB := cutC_len (baL b)
  rw [baL_len] at lA lB
  obtain ⟨ao, ca, rfl, _, _⟩ := id hv
  have HMv := hide (fun W (E : Ext w W) => HM W _ E (hv.ext E))
  obtain ⟨hw1, hw2⟩ := hw
  clear hv HM
  obtain ⟨A, hA⟩ : ∃ A, A = cutC (baL a) := ⟨_, rfl⟩
  obtain ⟨B, hB⟩ : ∃ B, B = cutC (baL b) := ⟨_, rfl⟩
  rw [← hA] at hcA lA hw1
  rw [← hB] at hcB lB
  obtain ⟨nA, hnA⟩ : ∃ n, A.length = n := ⟨_, rfl⟩
  obtain ⟨nB, hnB⟩ : ∃ n, B.length = n := ⟨_, rfl⟩
  rw [hnA] at hw1
  have HNA := hide hnA
  have HNB := hide hnB
  clear hA hB hnA hnB
  obtain ⟨V, hV⟩ : ∃ V, V = (w.alloc (.cells #[.string a, .string b, .string c, .slice ao un.length ca] 25)).alloc (.cells #[.string { data := #[] }, .string { data := #[] }, .string { data := #[] }, .slice none 0 0] 25) := ⟨_, rfl⟩
  have E0 : Ext w V := by rw [hV]; exact ((Ext.refl w).alloc _).alloc _
  have HB0 : Hid (V.heap[w.heap.size]? = some (.cells #[.string a, .string b, .string c, .slice ao un.length ca] 25 (0, 0))) := hide (by rw [hV]; exact ((Ext.refl _).alloc _).kept (new_block w _))
  have HB1 : Hid (V.heap[w.heap.size + 1]? = some (.cells #[.string { data := #[] }, .string { data := #[] }, .string { data := #[] }, .slice none 0 0] 25 (0, 0))) := hide (by rw [hV]; have h := new_block (w.alloc (.cells #[.string a, .string b, .string c, .slice ao un.length ca] 25)) (.cells #[.string { data := #[] }, .string { data := #[] }, .string { data := #[] }, .slice none 0 0] 25); rw [show (w.alloc (.cells #[.string a, .string b, .string c, .slice ao un.length ca] 25)).heap.size = w.heap.size + 1 by simp] at h; exact h)
  have sz0 : w.heap.size + 1 < V.heap.size := lt_of_block (unhide HB1)
  have HW := hide hV
  have HE0 := hide E0
  clear hV E0
  go_enter Tryz.func31, Tryz.ntmps31
  go_wp2_with fail
  rw [← unhide HW]
  clear HW
  refine ((unhide hcA) _).mono ?_
  rintro e w2 ⟨v2, rs2, rfl, o2, E2⟩
  obtain ⟨a2, c2, rfl⟩ : ∃ a c, v2 = .slice a A.length c := by
    obtain ⟨_, ao, cc, e, _⟩ := o2.cls
    exact ⟨ao, cc, e⟩
  have H2 := hide o2.cls
  rw [unhide HNA] at H2 ⊢
  replace HB0 := hide (E2.kept (unhide HB0))
  replace HB1 := hide (E2.kept (unhide HB1))
  replace HE0 := hide ((unhide HE0).trans E2)
  have q1 : w2.cell? ⟨w.heap.size, 1, none⟩ = some (.string b) := cells_of (unhide HB0) 1 _ rfl
  have z2 := E2.size
  clear o2 E2 hcA
  go_wp2_with fail
  refine ((unhide hcB) _).mono ?_
  rintro e w3 ⟨v3, rs3, rfl, o3, E3⟩
  obtain ⟨a3, c3, rfl⟩ : ∃ a c, v3 = .slice a B.length c := by
    obtain ⟨_, ao, cc, e, _⟩ := o3.cls
    exact ⟨ao, cc, e⟩
  have H3 := hide o3.cls
  rw [unhide HNB] at H3 ⊢
  replace H2 := hide ((unhide H2).ext E3)
  replace HB0 := hide (E3.kept (unhide HB0))
  replace HB1 := hide (E3.kept (unhide HB1))
  replace HE0 := hide ((unhide HE0).trans E3)
  have z3 := E3.size
  clear o3 E3 hcB q1
  have HMc := hide ((unhide HMv) w3 (unhide HE0))
  clear HMv H2 H3 HNA HNB
  go_wp2_with (first
    | (refine wpList_load_blk rfl 25 _ rfl (w.heap.size) rfl _ _ _ _ (unhide HB0) Tryz.underlying25 rfl infoL ?_))
  refine (unhide HMc).mono ?_
  rintro e w5 ⟨⟨v5, rfl, hl5⟩, E5⟩
  obtain ⟨ua, uc, rfl⟩ : ∃ ua uc, v5 = .slice ua un.length uc := by
    obtain ⟨x, y, e, _⟩ := hl5.reads
    exact ⟨x, y, e⟩
  have HL5 := hide hl5
  replace HB1 := hide (E5.kept (unhide HB1))
  replace HE0 := hide ((unhide HE0).trans E5)
  have HN := hide (heap_alloc_new w5 (.cells #[.string { data := #[] }, .string { data := #[] }, .string { data := #[] }, .slice none 0 0] 25))
  have hz5 : w.heap.size + 1 < w5.heap.size := lt_of_block (unhide HB1)
  clear HMc E5 hl5 HB0
  dsimp only
  go_wp2_with (first
    | (refine wpList_store_blk rfl 25 _ _ rfl rfl (w5.heap.size) rfl _ _ _ rfl (unhide HN) infoL rfl (by simp [Value.oneCell']) ?_; intro U hB hU; have hU1 := hU.ext ((Ext.refl w5).alloc _) (fun q hq => by omega); have HEU := hide hU1; have HBU := hide hB; have HB1s := hide (hU1.kept (unhide HB1)); clear hB hU hU1)
    | (refine wpList_load_blk rfl 25 _ rfl (w5.heap.size) rfl _ _ _ _ (unhide HBU) Tryz.underlying25 rfl infoL ?_)
    | (refine wpList_store_blk rfl 25 _ _ rfl rfl (w.heap.size + 1) rfl _ _ _ rfl (unhide HB1s) infoL rfl (by simp [Value.oneCell']) ?_; intro Z hy hf9; have HY := hide hy; have FY := hide hf9; clear hy hf9))
  have v0 : Z.cell? ⟨w.heap.size + 1, 0, none⟩ = some (.string XA) := cells_of (unhide HY) 0 _ rfl
  have v1 : Z.cell? ⟨w.heap.size + 1, 1, none⟩ = some (.string XB) := cells_of (unhide HY) 1 _ rfl
  have v2 : Z.cell? ⟨w.heap.size + 1, 2, none⟩ = some (.string c) := cells_of (unhide HY) 2 _ rfl
  have v3 : Z.cell? ⟨w.heap.size + 1, 3, none⟩ = some (.slice ua un.length uc) := cells_of (unhide HY) 3 _ rfl
  exact bodyPost_ret (v := .tuple #[.agg #[.string XA, .string XB, .string c, .slice ua un.length uc], .int .i64 1]) (by simp [results, Tryz.results31, go_sem, v0, v1, v2, v3]) rfl ⟨⟨_, rfl, (((unhide HL5).ext (unhide HEU)).fr (unhide FY) (fun g hg e9 => by have := ((unhide HL5).lt g hg).1; omega)).mono (by omega)⟩, (unhide FY).ext ((unhide HE0).trans (unhide HEU)) (fun q hq => by omega)⟩
end Go.Proofs.YtokjpnlmkecleaaGreatDoor

namespace Go.Proofs.YtokjpnlmkecleaaGreatDoor
open Go.RowKit

set_option maxRecDepth 10000 in
set_option maxHeartbeats 8000000 in
theorem l4Moved_8_no (a b c : ByteArray) (v : Value) (un : List (ByteArray × ByteArray)) (w : World) (hv : LnAt w v un) (za : a.size ≤ 1048576) (zb : b.size ≤ 1048576) (XA XB : ByteArray) (HM : ∀ W u, Ext w W → LnAt W u un → Calls Tryz.prog 65 #[.agg #[.string a, .string b, .string c, u], .int .i64 0] W fun e w' => LnO w' W.heap.size ⟨XA, XB, c, un, 2⟩ e ∧ Ext W w') :
    Calls Tryz.prog 31 #[.agg #[.string a, .string b, .string c, v], .int .i64 8] w fun e w' => LnO w' w.heap.size ⟨XA, XB, c, un, 0⟩ e ∧ Ext w w' := by
  have infoL : (Tryz.prog.info? 25).map (·.size) = some 4 := by kernel_rfl
  have hcA := hide (fun W => l4Cut_any (baL a) (baL_bytes a) W (by rw [baL_len]; omega))
  have hcB := hide (fun W => l4Cut_any (baL b) (baL_bytes b) W (by rw [baL_len]; omega))
  rw [toBA_baL] at hcA hcB
  have lA := cutC_len (baL a)
  have lB := cutC_len (baL b)
  rw [baL_len] at lA lB
  obtain ⟨ao, ca, rfl, _, _⟩ := id hv
  have HMv := hide (fun W (E : Ext w W) => HM W _ E (hv.ext E))
  clear hv HM
  obtain ⟨A, hA⟩ : ∃ A, A = cutC (baL a) := ⟨_, rfl⟩
  obtain ⟨B, hB⟩ : ∃ B, B = cutC (baL b) := ⟨_, rfl⟩
  rw [← hA] at hcA lA
  rw [← hB] at hcB lB
  obtain ⟨nA, hnA⟩ : ∃ n, A.length = n := ⟨_, rfl⟩
  obtain ⟨nB, hnB⟩ : ∃ n, B.length = n := ⟨_, rfl⟩
  have HNA := hide hnA
  have HNB := hide hnB
  clear hA hB hnA hnB
  obtain ⟨V, hV⟩ : ∃ V, V = (w.alloc (.cells #[.string a, .string b, .string c, .slice ao un.length ca] 25)).alloc (.cells #[.string { data := #[] }, .string { data := #[] }, .string { data := #[] }, .slice none 0 0] 25) := ⟨_, rfl⟩
  have E0 : Ext w V := by rw [hV]; exact ((Ext.refl w).alloc _).alloc _
  have HB0 : Hid (V.heap[w.heap.size]? = some (.cells #[.string a, .string b, .string c, .slice ao un.length ca] 25 (0, 0))) := hide (by rw [hV]; exact ((Ext.refl _).alloc _).kept (new_block w _))
  have HB1 : Hid (V.heap[w.heap.size + 1]? = some (.cells #[.string { data := #[] }, .string { data := #[] }, .string { data := #[] }, .slice none 0 0] 25 (0, 0))) := hide (by rw [hV]; have h := new_block (w.alloc (.cells #[.string a, .string b, .string c, .slice ao un.length ca] 25)) (.cells #[.string { data := #[] }, .string { data := #[] }, .string { data := #[] }, .slice none 0 0] 25); rw [show (w.alloc (.cells #[.string a, .string b, .string c, .slice ao un.length ca] 25)).heap.size = w.heap.size + 1 by simp] at h; exact h)
  have sz0 : w.heap.size + 1 < V.heap.size := lt_of_block (unhide HB1)
  have HW := hide hV
  have HE0 := hide E0
  clear hV E0
  go_enter Tryz.func31, Tryz.ntmps31
  go_wp2_with fail
  rw [← unhide HW]
  clear HW
  refine ((unhide hcA) _).mono ?_
  rintro e w2 ⟨v2, rs2, rfl, o2, E2⟩
  obtain ⟨a2, c2, rfl⟩ : ∃ a c, v2 = .slice a A.length c := by
    obtain ⟨_, ao, cc, e, _⟩ := o2.cls
    exact ⟨ao, cc, e⟩
  have H2 := hide o2.cls
  rw [unhide HNA] at H2 ⊢
  replace HB0 := hide (E2.kept (unhide HB0))
  replace HB1 := hide (E2.kept (unhide HB1))
  replace HE0 := hide ((unhide HE0).trans E2)
  have q1 : w2.cell? ⟨w.heap.size, 1, none⟩ = some (.string b) := cells_of (unhide HB0) 1 _ rfl
  have z2 := E2.size
  clear o2 E2 hcA
  go_wp2_with fail
  refine ((unhide hcB) _).mono ?_
  rintro e w3 ⟨v3, rs3, rfl, o3, E3⟩
  obtain ⟨a3, c3, rfl⟩ : ∃ a c, v3 = .slice a B.length c := by
    obtain ⟨_, ao, cc, e, _⟩ := o3.cls
    exact ⟨ao, cc, e⟩
  have H3 := hide o3.cls
  rw [unhide HNB] at H3 ⊢
  replace H2 := hide ((unhide H2).ext E3)
  replace HB0 := hide (E3.kept (unhide HB0))
  replace HB1 := hide (E3.kept (unhide HB1))
  replace HE0 := hide ((unhide HE0).trans E3)
  have z3 := E3.size
  clear o3 E3 hcB q1
  have HMc := hide ((unhide HMv) w3 (unhide HE0))
  clear HMv H2 H3 HNA HNB
  go_wp2_with (first
    | (refine wpList_load_blk rfl 25 _ rfl (w.heap.size) rfl _ _ _ _ (unhide HB0) Tryz.underlying25 rfl infoL ?_))
  refine (unhide HMc).mono ?_
  rintro e w5 ⟨⟨v5, rfl, hl5⟩, E5⟩
  obtain ⟨ua, uc, rfl⟩ : ∃ ua uc, v5 = .slice ua un.length uc := by
    obtain ⟨x, y, e, _⟩ := hl5.reads
    exact ⟨x, y, e⟩
  have HL5 := hide hl5
  replace HB1 := hide (E5.kept (unhide HB1))
  replace HE0 := hide ((unhide HE0).trans E5)
  have HN := hide (heap_alloc_new w5 (.cells #[.string { data := #[] }, .string { data := #[] }, .string { data := #[] }, .slice none 0 0] 25))
  have hz5 : w.heap.size + 1 < w5.heap.size := lt_of_block (unhide HB1)
  clear HMc E5 hl5 HB0
  dsimp only
  go_wp2_with (first
    | (refine wpList_store_blk rfl 25 _ _ rfl rfl (w5.heap.size) rfl _ _ _ rfl (unhide HN) infoL rfl (by simp [Value.oneCell']) ?_; intro U hB hU; have hU1 := hU.ext ((Ext.refl w5).alloc _) (fun q hq => by omega); have HEU := hide hU1; have HBU := hide hB; have HB1s := hide (hU1.kept (unhide HB1)); clear hB hU hU1)
    | (refine wpList_load_blk rfl 25 _ rfl (w5.heap.size) rfl _ _ _ _ (unhide HBU) Tryz.underlying25 rfl infoL ?_)
    | (refine wpList_store_blk rfl 25 _ _ rfl rfl (w.heap.size + 1) rfl _ _ _ rfl (unhide HB1s) infoL rfl (by simp [Value.oneCell']) ?_; intro Z hy hf9; have HY := hide hy; have FY := hide hf9; clear hy hf9))
  have v0 : Z.cell? ⟨w.heap.size + 1, 0, none⟩ = some (.string XA) := cells_of (unhide HY) 0 _ rfl
  have v1 : Z.cell? ⟨w.heap.size + 1, 1, none⟩ = some (.string XB) := cells_of (unhide HY) 1 _ rfl
  have v2 : Z.cell? ⟨w.heap.size + 1, 2, none⟩ = some (.string c) := cells_of (unhide HY) 2 _ rfl
  have v3 : Z.cell? ⟨w.heap.size + 1, 3, none⟩ = some (.slice ua un.length uc) := cells_of (unhide HY) 3 _ rfl
  exact bodyPost_ret (v := .tuple #[.agg #[.string XA, .string XB, .string c, .slice ua un.length uc], .int .i64 0]) (by simp [results, Tryz.results31, go_sem, v0, v1, v2, v3]) rfl ⟨⟨_, rfl, (((unhide HL5).ext (unhide HEU)).fr (unhide FY) (fun g hg e9 => by have := ((unhide HL5).lt g hg).1; omega)).mono (by omega)⟩, (unhide FY).ext ((unhide HE0).trans (unhide HEU)) (fun q hq => by omega)⟩
set_option maxRecDepth 10000 in
set_option maxHeartbeats 8000000 in
theorem l4Moved_8_yes (a b c : ByteArray) (v : Value) (un : List (ByteArray × ByteArray)) (w : World) (hv : LnAt w v un) (za : a.size ≤ 1048576) (zb : b.size ≤ 1048576) (XA XB : ByteArray) (HM : ∀ W u, Ext w W → LnAt W u un → Calls Tryz.prog 65 #[.agg #[.string a, .string b, .string c, u], .int .i64 0] W fun e w' => LnO w' W.heap.size ⟨XA, XB, c, un, 1⟩ e ∧ Ext W w') :
    Calls Tryz.prog 31 #[.agg #[.string a, .string b, .string c, v], .int .i64 8] w fun e w' => LnO w' w.heap.size ⟨XA, XB, c, un, 1⟩ e ∧ Ext w w' := by
  have infoL : (Tryz.prog.info? 25).map (·.size) = some 4 := by kernel_rfl
  have hcA := hide (fun W => l4Cut_any (baL a) (baL_bytes a) W (by rw [baL_len]; omega))
  have hcB := hide (fun W => l4Cut_any (baL b) (baL_bytes b) W (by rw [baL_len]; omega))
  rw [toBA_baL] at hcA hcB
  have lA := cutC_len (baL a)
  have lB := cutC_len (baL b)
  rw [baL_len] at lA lB
  obtain ⟨ao, ca, rfl, _, _⟩ := id hv
  have HMv := hide (fun W (E : Ext w W) => HM W _ E (hv.ext E))
  clear hv HM
  obtain ⟨A, hA⟩ : ∃ A, A = cutC (baL a) := ⟨_, rfl⟩
  obtain ⟨B, hB⟩ : ∃ B, B = cutC (baL b) := ⟨_, rfl⟩
  rw [← hA] at hcA lA
  rw [← hB] at hcB lB
  obtain ⟨nA, hnA⟩ : ∃ n, A.length = n := ⟨_, rfl⟩
  obtain ⟨nB, hnB⟩ : ∃ n, B.length = n := ⟨_, rfl⟩
  have HNA := hide hnA
  have HNB := hide hnB
  clear hA hB hnA hnB
  obtain ⟨V, hV⟩ : ∃ V, V = (w.alloc (.cells #[.string a, .string b, .string c, .slice ao un.length ca] 25)).alloc (.cells #[.string { data := #[] }, .string { data := #[] }, .string { data := #[] }, .slice none 0 0] 25) := ⟨_, rfl⟩
  have E0 : Ext w V := by rw [hV]; exact ((Ext.refl w).alloc _).alloc _
  have HB0 : Hid (V.heap[w.heap.size]? = some (.cells #[.string a, .string b, .string c, .slice ao un.length ca] 25 (0, 0))) := hide (by rw [hV]; exact ((Ext.refl _).alloc _).kept (new_block w _))
  have HB1 : Hid (V.heap[w.heap.size + 1]? = some (.cells #[.string { data := #[] }, .string { data := #[] }, .string { data := #[] }, .slice none 0 0] 25 (0, 0))) := hide (by rw [hV]; have h := new_block (w.alloc (.cells #[.string a, .string b, .string c, .slice ao un.length ca] 25)) (.cells #[.string { data := #[] }, .string { data := #[] }, .string { data := #[] }, .slice none 0 0] 25); rw [show (w.alloc (.cells #[.string a, .string b, .string c, .slice ao un.length ca] 25)).heap.size = w.heap.size + 1 by simp] at h; exact h)
  have sz0 : w.heap.size + 1 < V.heap.size := lt_of_block (unhide HB1)
  have HW := hide hV
  have HE0 := hide E0
  clear hV E0
  go_enter Tryz.func31, Tryz.ntmps31
  go_wp2_with fail
  rw [← unhide HW]
  clear HW
  refine ((unhide hcA) _).mono ?_
  rintro e w2 ⟨v2, rs2, rfl, o2, E2⟩
  obtain ⟨a2, c2, rfl⟩ : ∃ a c, v2 = .slice a A.length c := by
    obtain ⟨_, ao, cc, e, _⟩ := o2.cls
    exact ⟨ao, cc, e⟩
  have H2 := hide o2.cls
  rw [unhide HNA] at H2 ⊢
  replace HB0 := hide (E2.kept (unhide HB0))
  replace HB1 := hide (E2.kept (unhide HB1))
  replace HE0 := hide ((unhide HE0).trans E2)
  have q1 : w2.cell? ⟨w.heap.size, 1, none⟩ = some (.string b) := cells_of (unhide HB0) 1 _ rfl
  have z2 := E2.size
  clear o2 E2 hcA
  go_wp2_with fail
  refine ((unhide hcB) _).mono ?_
  rintro e w3 ⟨v3, rs3, rfl, o3, E3⟩
  obtain ⟨a3, c3, rfl⟩ : ∃ a c, v3 = .slice a B.length c := by
    obtain ⟨_, ao, cc, e, _⟩ := o3.cls
    exact ⟨ao, cc, e⟩
  have H3 := hide o3.cls
  rw [unhide HNB] at H3 ⊢
  replace H2 := hide ((unhide H2).ext E3)
  replace HB0 := hide (E3.kept (unhide HB0))
  replace HB1 := hide (E3.kept (unhide HB1))
  replace HE0 := hide ((unhide HE0).trans E3)
  have z3 := E3.size
  clear o3 E3 hcB q1
  have HMc := hide ((unhide HMv) w3 (unhide HE0))
  clear HMv H2 H3 HNA HNB
  go_wp2_with (first
    | (refine wpList_load_blk rfl 25 _ rfl (w.heap.size) rfl _ _ _ _ (unhide HB0) Tryz.underlying25 rfl infoL ?_))
  refine (unhide HMc).mono ?_
  rintro e w5 ⟨⟨v5, rfl, hl5⟩, E5⟩
  obtain ⟨ua, uc, rfl⟩ : ∃ ua uc, v5 = .slice ua un.length uc := by
    obtain ⟨x, y, e, _⟩ := hl5.reads
    exact ⟨x, y, e⟩
  have HL5 := hide hl5
  replace HB1 := hide (E5.kept (unhide HB1))
  replace HE0 := hide ((unhide HE0).trans E5)
  have HN := hide (heap_alloc_new w5 (.cells #[.string { data := #[] }, .string { data := #[] }, .string { data := #[] }, .slice none 0 0] 25))
  have hz5 : w.heap.size + 1 < w5.heap.size := lt_of_block (unhide HB1)
  clear HMc E5 hl5 HB0
  dsimp only
  go_wp2_with (first
    | (refine wpList_store_blk rfl 25 _ _ rfl rfl (w5.heap.size) rfl _ _ _ rfl (unhide HN) infoL rfl (by simp [Value.oneCell']) ?_; intro U hB hU; have hU1 := hU.ext ((Ext.refl w5).alloc _) (fun q hq => by omega); have HEU := hide hU1; have HBU := hide hB; have HB1s := hide (hU1.kept (unhide HB1)); clear hB hU hU1)
    | (refine wpList_load_blk rfl 25 _ rfl (w5.heap.size) rfl _ _ _ _ (unhide HBU) Tryz.underlying25 rfl infoL ?_)
    | (refine wpList_store_blk rfl 25 _ _ rfl rfl (w.heap.size + 1) rfl _ _ _ rfl (unhide HB1s) infoL rfl (by simp [Value.oneCell']) ?_; intro Z hy hf9; have HY := hide hy; have FY := hide hf9; clear hy hf9))
  have v0 : Z.cell? ⟨w.heap.size + 1, 0, none⟩ = some (.string XA) := cells_of (unhide HY) 0 _ rfl
  have v1 : Z.cell? ⟨w.heap.size + 1, 1, none⟩ = some (.string XB) := cells_of (unhide HY) 1 _ rfl
  have v2 : Z.cell? ⟨w.heap.size + 1, 2, none⟩ = some (.string c) := cells_of (unhide HY) 2 _ rfl
  have v3 : Z.cell? ⟨w.heap.size + 1, 3, none⟩ = some (.slice ua un.length uc) := cells_of (unhide HY) 3 _ rfl
  exact bodyPost_ret (v := .tuple #[.agg #[.string XA, .string XB, .string c, .slice ua un.length uc], .int .i64 1]) (by simp [results, Tryz.results31, go_sem, v0, v1, v2, v3]) rfl ⟨⟨_, rfl, (((unhide HL5).ext (unhide HEU)).fr (unhide FY) (fun g hg e9 => by have := ((unhide HL5).lt g hg).1; omega)).mono (by omega)⟩, (unhide FY).ext ((unhide HE0).trans (unhide HEU)) (fun q hq => by omega)⟩
end Go.Proofs.YtokjpnlmkecleaaGreatDoor

namespace Go.Proofs.YtokjpnlmkecleaaGreatDoor
open Go.RowKit

set_option maxRecDepth 10000 in
set_option maxHeartbeats 8000000 in
theorem l4Moved_9_no (a b c : ByteArray) (v : Value) (un : List (ByteArray × ByteArray)) (w : World) (hv : LnAt w v un) (za : a.size ≤ 1048576) (zb : b.size ≤ 1048576) (XA XB : ByteArray) (N : Int) (hw : IntKind.i64.wrap (((cutC (baL a)).length : Int) + ((cutC (baL b)).length : Int)) = N ∧ ¬ N = -2) (HM : ∀ W u, Ext w W → LnAt W u un → Calls Tryz.prog 65 #[.agg #[.string a, .string b, .string c, u], .int .i64 N] W fun e w' => LnO w' W.heap.size ⟨XA, XB, c, un, 2⟩ e ∧ Ext W w') :
    Calls Tryz.prog 31 #[.agg #[.string a, .string b, .string c, v], .int .i64 9] w fun e w' => LnO w' w.heap.size ⟨XA, XB, c, un, 0⟩ e ∧ Ext w w' := by
  have infoL : (Tryz.prog.info? 25).map (·.size) = some 4 := by kernel_rfl
  have hcA := hide (fun W => l4Cut_any (baL a) (baL_bytes a) W (by rw [baL_len]; omega))
  have hcB := hide (fun W => l4Cut_any (baL b) (baL_bytes b) W (by rw [baL_len]; omega))
  rw [toBA_baL] at hcA hcB
  have lA := cutC_len (baL a)
  have lB := cutC_len (baL b)
  rw [baL_len] at lA lB
  obtain ⟨ao, ca, rfl, _, _⟩ := id hv
  have HMv := hide (fun W (E : Ext w W) => HM W _ E (hv.ext E))
  obtain ⟨hw1, hw2⟩ := hw
  clear hv HM
  obtain ⟨A, hA⟩ : ∃ A, A = cutC (baL a) := ⟨_, rfl⟩
  obtain ⟨B, hB⟩ : ∃ B, B = cutC (baL b) := ⟨_, rfl⟩
  rw [← hA] at hcA lA hw1
  rw [← hB] at hcB lB hw1
  obtain ⟨nA, hnA⟩ : ∃ n, A.length = n := ⟨_, rfl⟩
  obtain ⟨nB, hnB⟩ : ∃ n, B.length = n := ⟨_, rfl⟩
  rw [hnA] at hw1
  rw [hnB] at hw1
  have HNA := hide hnA
  have HNB := hide hnB
  clear hA hB hnA hnB
  obtain ⟨V, hV⟩ : ∃ V, V = (w.alloc (.cells #[.string a, .string b, .string c, .slice ao un.length ca] 25)).alloc (.cells #[.string { data := #[] }, .string { data := #[] }, .string { data := #[] }, .slice none 0 0] 25) := ⟨_, rfl⟩
  have E0 : Ext w V := by rw [hV]; exact ((Ext.refl w).alloc _).alloc _
  have HB0 : Hid (V.heap[w.heap.size]? = some (.cells #[.string a, .string b, .string c, .slice ao un.length ca] 25 (0, 0))) := hide (by rw [hV]; exact ((Ext.refl _).alloc _).kept (new_block w _))
  have HB1 : Hid (V.heap[w.heap.size + 1]? = some (.cells #[.string { data := #[] }, .string { data := #[] }, .string { data := #[] }, .slice none 0 0] 25 (0, 0))) := hide (by rw [hV]; have h := new_block (w.alloc (.cells #[.string a, .string b, .string c, .slice ao un.length ca] 25)) (.cells #[.string { data := #[] }, .string { data := #[] }, .string { data := #[] }, .slice none 0 0] 25); rw [show (w.alloc (.cells #[.string a, .string b, .string c, .slice ao un.length ca] 25)).heap.size = w.heap.size + 1 by simp] at h; exact h)
  have sz0 : w.heap.size + 1 < V.heap.size := lt_of_block (unhide HB1)
  have HW := hide hV
  have HE0 := hide E0
  clear hV E0
  go_enter Tryz.func31, Tryz.ntmps31
  go_wp2_with fail
  rw [← unhide HW]
  clear HW
  refine ((unhide hcA) _).mono ?_
  rintro e w2 ⟨v2, rs2, rfl, o2, E2⟩
  obtain ⟨a2, c2, rfl⟩ : ∃ a c, v2 = .slice a A.length c := by
    obtain ⟨_, ao, cc, e, _⟩ := o2.cls
    exact ⟨ao, cc, e⟩
  have H2 := hide o2.cls
  rw [unhide HNA] at H2 ⊢
  replace HB0 := hide (E2.kept (unhide HB0))
  replace HB1 := hide (E2.kept (unhide HB1))
  replace HE0 := hide ((unhide HE0).trans E2)
  have q1 : w2.cell? ⟨w.heap.size, 1, none⟩ = some (.string b) := cells_of (unhide HB0) 1 _ rfl
  have z2 := E2.size
  clear o2 E2 hcA
  go_wp2_with fail
  refine ((unhide hcB) _).mono ?_
  rintro e w3 ⟨v3, rs3, rfl, o3, E3⟩
  obtain ⟨a3, c3, rfl⟩ : ∃ a c, v3 = .slice a B.length c := by
    obtain ⟨_, ao, cc, e, _⟩ := o3.cls
    exact ⟨ao, cc, e⟩
  have H3 := hide o3.cls
  rw [unhide HNB] at H3 ⊢
  replace H2 := hide ((unhide H2).ext E3)
  replace HB0 := hide (E3.kept (unhide HB0))
  replace HB1 := hide (E3.kept (unhide HB1))
  replace HE0 := hide ((unhide HE0).trans E3)
  have z3 := E3.size
  clear o3 E3 hcB q1
  have HMc := hide ((unhide HMv) w3 (unhide HE0))
  clear HMv H2 H3 HNA HNB
  go_wp2_with (first
    | (refine wpList_load_blk rfl 25 _ rfl (w.heap.size) rfl _ _ _ _ (unhide HB0) Tryz.underlying25 rfl infoL ?_))
  refine (unhide HMc).mono ?_
  rintro e w5 ⟨⟨v5, rfl, hl5⟩, E5⟩
  obtain ⟨ua, uc, rfl⟩ : ∃ ua uc, v5 = .slice ua un.length uc := by
    obtain ⟨x, y, e, _⟩ := hl5.reads
    exact ⟨x, y, e⟩
  have HL5 := hide hl5
  replace HB1 := hide (E5.kept (unhide HB1))
  replace HE0 := hide ((unhide HE0).trans E5)
  have HN := hide (heap_alloc_new w5 (.cells #[.string { data := #[] }, .string { data := #[] }, .string { data := #[] }, .slice none 0 0] 25))
  have hz5 : w.heap.size + 1 < w5.heap.size := lt_of_block (unhide HB1)
  clear HMc E5 hl5 HB0
  dsimp only
  go_wp2_with (first
    | (refine wpList_store_blk rfl 25 _ _ rfl rfl (w5.heap.size) rfl _ _ _ rfl (unhide HN) infoL rfl (by simp [Value.oneCell']) ?_; intro U hB hU; have hU1 := hU.ext ((Ext.refl w5).alloc _) (fun q hq => by omega); have HEU := hide hU1; have HBU := hide hB; have HB1s := hide (hU1.kept (unhide HB1)); clear hB hU hU1)
    | (refine wpList_load_blk rfl 25 _ rfl (w5.heap.size) rfl _ _ _ _ (unhide HBU) Tryz.underlying25 rfl infoL ?_)
    | (refine wpList_store_blk rfl 25 _ _ rfl rfl (w.heap.size + 1) rfl _ _ _ rfl (unhide HB1s) infoL rfl (by simp [Value.oneCell']) ?_; intro Z hy hf9; have HY := hide hy; have FY := hide hf9; clear hy hf9))
  have v0 : Z.cell? ⟨w.heap.size + 1, 0, none⟩ = some (.string XA) := cells_of (unhide HY) 0 _ rfl
  have v1 : Z.cell? ⟨w.heap.size + 1, 1, none⟩ = some (.string XB) := cells_of (unhide HY) 1 _ rfl
  have v2 : Z.cell? ⟨w.heap.size + 1, 2, none⟩ = some (.string c) := cells_of (unhide HY) 2 _ rfl
  have v3 : Z.cell? ⟨w.heap.size + 1, 3, none⟩ = some (.slice ua un.length uc) := cells_of (unhide HY) 3 _ rfl
  exact bodyPost_ret (v := .tuple #[.agg #[.string XA, .string XB, .string c, .slice ua un.length uc], .int .i64 0]) (by simp [results, Tryz.results31, go_sem, v0, v1, v2, v3]) rfl ⟨⟨_, rfl, (((unhide HL5).ext (unhide HEU)).fr (unhide FY) (fun g hg e9 => by have := ((unhide HL5).lt g hg).1; omega)).mono (by omega)⟩, (unhide FY).ext ((unhide HE0).trans (unhide HEU)) (fun q hq => by omega)⟩
set_option maxRecDepth 10000 in
set_option maxHeartbeats 8000000 in
theorem l4Moved_9_yes (a b c : ByteArray) (v : Value) (un : List (ByteArray × ByteArray)) (w : World) (hv : LnAt w v un) (za : a.size ≤ 1048576) (zb : b.size ≤ 1048576) (XA XB : ByteArray) (N : Int) (hw : IntKind.i64.wrap (((cutC (baL a)).length : Int) + ((cutC (baL b)).length : Int)) = N ∧ ¬ N = -2) (HM : ∀ W u, Ext w W → LnAt W u un → Calls Tryz.prog 65 #[.agg #[.string a, .string b, .string c, u], .int .i64 N] W fun e w' => LnO w' W.heap.size ⟨XA, XB, c, un, 1⟩ e ∧ Ext W w') :
    Calls Tryz.prog 31 #[.agg #[.string a, .string b, .string c, v], .int .i64 9] w fun e w' => LnO w' w.heap.size ⟨XA, XB, c, un, 1⟩ e ∧ Ext w w' := by
  have infoL : (Tryz.prog.info? 25).map (·.size) = some 4 := by kernel_rfl
  have hcA := hide (fun W => l4Cut_any (baL a) (baL_bytes a) W (by rw [baL_len]; omega))
  have hcB := hide (fun W => l4Cut_any (baL b) (baL_bytes b) W (by rw [baL_len]; omega))
  rw [toBA_baL] at hcA hcB
  have lA := cutC_len (baL a)
  have lB := cutC_len (baL b)
  rw [baL_len] at lA lB
  obtain ⟨ao, ca, rfl, _, _⟩ := id hv
  have HMv := hide (fun W (E : Ext w W) => HM W _ E (hv.ext E))
  obtain ⟨hw1, hw2⟩ := hw
  clear hv HM
  obtain ⟨A, hA⟩ : ∃ A, A = cutC (baL a) := ⟨_, rfl⟩
  obtain ⟨B, hB⟩ : ∃ B, B = cutC (baL b) := ⟨_, rfl⟩
  rw [← hA] at hcA lA hw1
  rw [← hB] at hcB lB hw1
  obtain ⟨nA, hnA⟩ : ∃ n, A.length = n := ⟨_, rfl⟩
  obtain ⟨nB, hnB⟩ : ∃ n, B.length = n := ⟨_, rfl⟩
  rw [hnA] at hw1
  rw [hnB] at hw1
  have HNA := hide hnA
  have HNB := hide hnB
  clear hA hB hnA hnB
  obtain ⟨V, hV⟩ : ∃ V, V = (w.alloc (.cells #[.string a, .string b, .string c, .slice ao un.length ca] 25)).alloc (.cells #[.string { data := #[] }, .string { data := #[] }, .string { data := #[] }, .slice none 0 0] 25) := ⟨_, rfl⟩
  have E0 : Ext w V := by rw [hV]; exact ((Ext.refl w).alloc _).alloc _
  have HB0 : Hid (V.heap[w.heap.size]? = some (.cells #[.string a, .string b, .string c, .slice ao un.length ca] 25 (0, 0))) := hide (by rw [hV]; exact ((Ext.refl _).alloc _).kept (new_block w _))
  have HB1 : Hid (V.heap[w.heap.size + 1]? = some (.cells #[.string { data := #[] }, .string { data := #[] }, .string { data := #[] }, .slice none 0 0] 25 (0, 0))) := hide (by rw [hV]; have h := new_block (w.alloc (.cells #[.string a, .string b, .string c, .slice ao un.length ca] 25)) (.cells #[.string { data := #[] }, .string { data := #[] }, .string { data := #[] }, .slice none 0 0] 25); rw [show (w.alloc (.cells #[.string a, .string b, .string c, .slice ao un.length ca] 25)).heap.size = w.heap.size + 1 by simp] at h; exact h)
  have sz0 : w.heap.size + 1 < V.heap.size := lt_of_block (unhide HB1)
  have HW := hide hV
  have HE0 := hide E0
  clear hV E0
  go_enter Tryz.func31, Tryz.ntmps31
  go_wp2_with fail
  rw [← unhide HW]
  clear HW
  refine ((unhide hcA) _).mono ?_
  rintro e w2 ⟨v2, rs2, rfl, o2, E2⟩
  obtain ⟨a2, c2, rfl⟩ : ∃ a c, v2 = .slice a A.length c := by
    obtain ⟨_, ao, cc, e, _⟩ := o2.cls
    exact ⟨ao, cc, e⟩
  have H2 := hide o2.cls
  rw [unhide HNA] at H2 ⊢
  replace HB0 := hide (E2.kept (unhide HB0))
  replace HB1 := hide (E2.kept (unhide HB1))
  replace HE0 := hide ((unhide HE0).trans E2)
  have q1 : w2.cell? ⟨w.heap.size, 1, none⟩ = some (.string b) := cells_of (unhide HB0) 1 _ rfl
  have z2 := E2.size
  clear o2 E2 hcA
  go_wp2_with fail
  refine ((unhide hcB) _).mono ?_
  rintro e w3 ⟨v3, rs3, rfl, o3, E3⟩
  obtain ⟨a3, c3, rfl⟩ : ∃ a c, v3 = .slice a B.length c := by
    obtain ⟨_, ao, cc, e, _⟩ := o3.cls
    exact ⟨ao, cc, e⟩
  have H3 := hide o3.cls
  rw [unhide HNB] at H3 ⊢
  replace H2 := hide ((unhide H2).ext E3)
  replace HB0 := hide (E3.kept (unhide HB0))
  replace HB1 := hide (E3.kept (unhide HB1))
  replace HE0 := hide ((unhide HE0).trans E3)
  have z3 := E3.size
  clear o3 E3 hcB q1
  have HMc := hide ((unhide HMv) w3 (unhide HE0))
  clear HMv H2 H3 HNA HNB
  go_wp2_with (first
    | (refine wpList_load_blk rfl 25 _ rfl (w.heap.size) rfl _ _ _ _ (unhide HB0) Tryz.underlying25 rfl infoL ?_))
  refine (unhide HMc).mono ?_
  rintro e w5 ⟨⟨v5, rfl, hl5⟩, E5⟩
  obtain ⟨ua, uc, rfl⟩ : ∃ ua uc, v5 = .slice ua un.length uc := by
    obtain ⟨x, y, e, _⟩ := hl5.reads
    exact ⟨x, y, e⟩
  have HL5 := hide hl5
  replace HB1 := hide (E5.kept (unhide HB1))
  replace HE0 := hide ((unhide HE0).trans E5)
  have HN := hide (heap_alloc_new w5 (.cells #[.string { data := #[] }, .string { data := #[] }, .string { data := #[] }, .slice none 0 0] 25))
  have hz5 : w.heap.size + 1 < w5.heap.size := lt_of_block (unhide HB1)
  clear HMc E5 hl5 HB0
  dsimp only
  go_wp2_with (first
    | (refine wpList_store_blk rfl 25 _ _ rfl rfl (w5.heap.size) rfl _ _ _ rfl (unhide HN) infoL rfl (by simp [Value.oneCell']) ?_; intro U hB hU; have hU1 := hU.ext ((Ext.refl w5).alloc _) (fun q hq => by omega); have HEU := hide hU1; have HBU := hide hB; have HB1s := hide (hU1.kept (unhide HB1)); clear hB hU hU1)
    | (refine wpList_load_blk rfl 25 _ rfl (w5.heap.size) rfl _ _ _ _ (unhide HBU) Tryz.underlying25 rfl infoL ?_)
    | (refine wpList_store_blk rfl 25 _ _ rfl rfl (w.heap.size + 1) rfl _ _ _ rfl (unhide HB1s) infoL rfl (by simp [Value.oneCell']) ?_; intro Z hy hf9; have HY := hide hy; have FY := hide hf9; clear hy hf9))
  have v0 : Z.cell? ⟨w.heap.size + 1, 0, none⟩ = some (.string XA) := cells_of (unhide HY) 0 _ rfl
  have v1 : Z.cell? ⟨w.heap.size + 1, 1, none⟩ = some (.string XB) := cells_of (unhide HY) 1 _ rfl
  have v2 : Z.cell? ⟨w.heap.size + 1, 2, none⟩ = some (.string c) := cells_of (unhide HY) 2 _ rfl
  have v3 : Z.cell? ⟨w.heap.size + 1, 3, none⟩ = some (.slice ua un.length uc) := cells_of (unhide HY) 3 _ rfl
  exact bodyPost_ret (v := .tuple #[.agg #[.string XA, .string XB, .string c, .slice ua un.length uc], .int .i64 1]) (by simp [results, Tryz.results31, go_sem, v0, v1, v2, v3]) rfl ⟨⟨_, rfl, (((unhide HL5).ext (unhide HEU)).fr (unhide FY) (fun g hg e9 => by have := ((unhide HL5).lt g hg).1; omega)).mono (by omega)⟩, (unhide FY).ext ((unhide HE0).trans (unhide HEU)) (fun q hq => by omega)⟩
end Go.Proofs.YtokjpnlmkecleaaGreatDoor

namespace Go.Proofs.YtokjpnlmkecleaaGreatDoor
open Go.RowKit

set_option maxRecDepth 10000 in
set_option maxHeartbeats 8000000 in
theorem l4Moved_18_no (a b c : ByteArray) (v : Value) (un : List (ByteArray × ByteArray)) (w : World) (hv : LnAt w v un) (za : a.size ≤ 1048576) (zb : b.size ≤ 1048576) (XA XB : ByteArray) (N : Int) (hw : N = (((cutC (baL a)).length - wdL (cutC (baL a)) : Nat) : Int) ∧ ¬ N = -2) (HM : ∀ W u, Ext w W → LnAt W u un → Calls Tryz.prog 65 #[.agg #[.string a, .string b, .string c, u], .int .i64 N] W fun e w' => LnO w' W.heap.size ⟨XA, XB, c, un, 2⟩ e ∧ Ext W w') :
    Calls Tryz.prog 31 #[.agg #[.string a, .string b, .string c, v], .int .i64 18] w fun e w' => LnO w' w.heap.size ⟨XA, XB, c, un, 2⟩ e ∧ Ext w w' := by
  have infoL : (Tryz.prog.info? 25).map (·.size) = some 4 := by kernel_rfl
  have hcA := hide (fun W => l4Cut_any (baL a) (baL_bytes a) W (by rw [baL_len]; omega))
  have hcB := hide (fun W => l4Cut_any (baL b) (baL_bytes b) W (by rw [baL_len]; omega))
  rw [toBA_baL] at hcA hcB
  have lA := cutC_len (baL a)
  have lB := cutC_len (baL b)
  rw [baL_len] at lA lB
  obtain ⟨ao, ca, rfl, _, _⟩ := id hv
  have HMv := hide (fun W (E : Ext w W) => HM W _ E (hv.ext E))
  have HWd := hide (fun v W (hv : ClsAt W v (cutC (baL a))) => l4WordLeft_any v (cutC (baL a)) W hv (by omega))
  obtain ⟨hw0, hw2⟩ := hw
  clear hv HM
  obtain ⟨A, hA⟩ : ∃ A, A = cutC (baL a) := ⟨_, rfl⟩
  obtain ⟨B, hB⟩ : ∃ B, B = cutC (baL b) := ⟨_, rfl⟩
  rw [← hA] at hcA lA HWd hw0
  rw [← hB] at hcB lB
  obtain ⟨nA, hnA⟩ : ∃ n, A.length = n := ⟨_, rfl⟩
  obtain ⟨nB, hnB⟩ : ∃ n, B.length = n := ⟨_, rfl⟩
  have HWs : Hid (∀ r : Nat, r ≤ A.length → Wd (fun j => spB (cR A (A.length - 1 - j))) A.length (A.length - r) → ((r : Nat) : Int) = N) := hide (fun r hr h => by
    have h1 : wdL A = A.length - r := wdN_eq h
    rw [hw0, h1]
    omega)
  clear hw0
  have HNA := hide hnA
  have HNB := hide hnB
  clear hA hB hnA hnB
  obtain ⟨V, hV⟩ : ∃ V, V = (w.alloc (.cells #[.string a, .string b, .string c, .slice ao un.length ca] 25)).alloc (.cells #[.string { data := #[] }, .string { data := #[] }, .string { data := #[] }, .slice none 0 0] 25) := ⟨_, rfl⟩
  have E0 : Ext w V := by rw [hV]; exact ((Ext.refl w).alloc _).alloc _
  have HB0 : Hid (V.heap[w.heap.size]? = some (.cells #[.string a, .string b, .string c, .slice ao un.length ca] 25 (0, 0))) := hide (by rw [hV]; exact ((Ext.refl _).alloc _).kept (new_block w _))
  have HB1 : Hid (V.heap[w.heap.size + 1]? = some (.cells #[.string { data := #[] }, .string { data := #[] }, .string { data := #[] }, .slice none 0 0] 25 (0, 0))) := hide (by rw [hV]; have h := new_block (w.alloc (.cells #[.string a, .string b, .string c, .slice ao un.length ca] 25)) (.cells #[.string { data := #[] }, .string { data := #[] }, .string { data := #[] }, .slice none 0 0] 25); rw [show (w.alloc (.cells #[.string a, .string b, .string c, .slice ao un.length ca] 25)).heap.size = w.heap.size + 1 by simp] at h; exact h)
  have sz0 : w.heap.size + 1 < V.heap.size := lt_of_block (unhide HB1)
  have HW := hide hV
  have HE0 := hide E0
  clear hV E0
  go_enter Tryz.func31, Tryz.ntmps31
  go_wp2_with fail
  rw [← unhide HW]
  clear HW
  refine ((unhide hcA) _).mono ?_
  rintro e w2 ⟨v2, rs2, rfl, o2, E2⟩
  obtain ⟨a2, c2, rfl⟩ : ∃ a c, v2 = .slice a A.length c := by
    obtain ⟨_, ao, cc, e, _⟩ := o2.cls
    exact ⟨ao, cc, e⟩
  have H2 := hide o2.cls
  rw [unhide HNA] at H2 ⊢
  replace HB0 := hide (E2.kept (unhide HB0))
  replace HB1 := hide (E2.kept (unhide HB1))
  replace HE0 := hide ((unhide HE0).trans E2)
  have q1 : w2.cell? ⟨w.heap.size, 1, none⟩ = some (.string b) := cells_of (unhide HB0) 1 _ rfl
  have z2 := E2.size
  clear o2 E2 hcA
  go_wp2_with fail
  refine ((unhide hcB) _).mono ?_
  rintro e w3 ⟨v3, rs3, rfl, o3, E3⟩
  obtain ⟨a3, c3, rfl⟩ : ∃ a c, v3 = .slice a B.length c := by
    obtain ⟨_, ao, cc, e, _⟩ := o3.cls
    exact ⟨ao, cc, e⟩
  have H3 := hide o3.cls
  rw [unhide HNB] at H3 ⊢
  replace H2 := hide ((unhide H2).ext E3)
  replace HB0 := hide (E3.kept (unhide HB0))
  replace HB1 := hide (E3.kept (unhide HB1))
  replace HE0 := hide ((unhide HE0).trans E3)
  have z3 := E3.size
  clear o3 E3 hcB q1
  go_wp2_with fail
  refine ((unhide HWd) _ _ (unhide H2)).mono ?_
  rintro e w4 ⟨r, rfl, hrl, hwd, E4⟩
  have hrN := (unhide HWs) r hrl hwd
  rw [hrN]
  replace HB0 := hide (E4.kept (unhide HB0))
  replace HB1 := hide (E4.kept (unhide HB1))
  replace HE0 := hide ((unhide HE0).trans E4)
  have z4 := E4.size
  clear hrN hrl hwd E4 HWd HWs
  have HMc := hide ((unhide HMv) w4 (unhide HE0))
  clear HMv H2 H3 HNA HNB
  go_wp2_with (first
    | (refine wpList_load_blk rfl 25 _ rfl (w.heap.size) rfl _ _ _ _ (unhide HB0) Tryz.underlying25 rfl infoL ?_))
  refine (unhide HMc).mono ?_
  rintro e w5 ⟨⟨v5, rfl, hl5⟩, E5⟩
  obtain ⟨ua, uc, rfl⟩ : ∃ ua uc, v5 = .slice ua un.length uc := by
    obtain ⟨x, y, e, _⟩ := hl5.reads
    exact ⟨x, y, e⟩
  have HL5 := hide hl5
  replace HB1 := hide (E5.kept (unhide HB1))
  replace HE0 := hide ((unhide HE0).trans E5)
  have HN := hide (heap_alloc_new w5 (.cells #[.string { data := #[] }, .string { data := #[] }, .string { data := #[] }, .slice none 0 0] 25))
  have hz5 : w.heap.size + 1 < w5.heap.size := lt_of_block (unhide HB1)
  clear HMc E5 hl5 HB0
  dsimp only
  go_wp2_with (first
    | (refine wpList_store_blk rfl 25 _ _ rfl rfl (w5.heap.size) rfl _ _ _ rfl (unhide HN) infoL rfl (by simp [Value.oneCell']) ?_; intro U hB hU; have hU1 := hU.ext ((Ext.refl w5).alloc _) (fun q hq => by omega); have HEU := hide hU1; have HBU := hide hB; have HB1s := hide (hU1.kept (unhide HB1)); clear hB hU hU1)
    | (refine wpList_load_blk rfl 25 _ rfl (w5.heap.size) rfl _ _ _ _ (unhide HBU) Tryz.underlying25 rfl infoL ?_)
    | (refine wpList_store_blk rfl 25 _ _ rfl rfl (w.heap.size + 1) rfl _ _ _ rfl (unhide HB1s) infoL rfl (by simp [Value.oneCell']) ?_; intro Z hy hf9; have HY := hide hy; have FY := hide hf9; clear hy hf9))
  have v0 : Z.cell? ⟨w.heap.size + 1, 0, none⟩ = some (.string XA) := cells_of (unhide HY) 0 _ rfl
  have v1 : Z.cell? ⟨w.heap.size + 1, 1, none⟩ = some (.string XB) := cells_of (unhide HY) 1 _ rfl
  have v2 : Z.cell? ⟨w.heap.size + 1, 2, none⟩ = some (.string c) := cells_of (unhide HY) 2 _ rfl
  have v3 : Z.cell? ⟨w.heap.size + 1, 3, none⟩ = some (.slice ua un.length uc) := cells_of (unhide HY) 3 _ rfl
  exact bodyPost_ret (v := .tuple #[.agg #[.string XA, .string XB, .string c, .slice ua un.length uc], .int .i64 2]) (by simp [results, Tryz.results31, go_sem, v0, v1, v2, v3]) rfl ⟨⟨_, rfl, (((unhide HL5).ext (unhide HEU)).fr (unhide FY) (fun g hg e9 => by have := ((unhide HL5).lt g hg).1; omega)).mono (by omega)⟩, (unhide FY).ext ((unhide HE0).trans (unhide HEU)) (fun q hq => by omega)⟩
set_option maxRecDepth 10000 in
set_option maxHeartbeats 8000000 in
theorem l4Moved_18_yes (a b c : ByteArray) (v : Value) (un : List (ByteArray × ByteArray)) (w : World) (hv : LnAt w v un) (za : a.size ≤ 1048576) (zb : b.size ≤ 1048576) (XA XB : ByteArray) (N : Int) (hw : N = (((cutC (baL a)).length - wdL (cutC (baL a)) : Nat) : Int) ∧ ¬ N = -2) (HM : ∀ W u, Ext w W → LnAt W u un → Calls Tryz.prog 65 #[.agg #[.string a, .string b, .string c, u], .int .i64 N] W fun e w' => LnO w' W.heap.size ⟨XA, XB, c, un, 1⟩ e ∧ Ext W w') :
    Calls Tryz.prog 31 #[.agg #[.string a, .string b, .string c, v], .int .i64 18] w fun e w' => LnO w' w.heap.size ⟨XA, XB, c, un, 1⟩ e ∧ Ext w w' := by
  have infoL : (Tryz.prog.info? 25).map (·.size) = some 4 := by kernel_rfl
  have hcA := hide (fun W => l4Cut_any (baL a) (baL_bytes a) W (by rw [baL_len]; omega))
  have hcB := hide (fun W => l4Cut_any (baL b) (baL_bytes b) W (by rw [baL_len]; omega))
  rw [toBA_baL] at hcA hcB
  have lA := cutC_len (baL a)
  have lB := cutC_len (baL b)
  rw [baL_len] at lA lB
  obtain ⟨ao, ca, rfl, _, _⟩ := id hv
  have HMv := hide (fun W (E : Ext w W) => HM W _ E (hv.ext E))
  have HWd := hide (fun v W (hv : ClsAt W v (cutC (baL a))) => l4WordLeft_any v (cutC (baL a)) W hv (by omega))
  obtain ⟨hw0, hw2⟩ := hw
  clear hv HM
  obtain ⟨A, hA⟩ : ∃ A, A = cutC (baL a) := ⟨_, rfl⟩
  obtain ⟨B, hB⟩ : ∃ B, B = cutC (baL b) := ⟨_, rfl⟩
  rw [← hA] at hcA lA HWd hw0
  rw [← hB] at hcB lB
  obtain ⟨nA, hnA⟩ : ∃ n, A.length = n := ⟨_, rfl⟩
  obtain ⟨nB, hnB⟩ : ∃ n, B.length = n := ⟨_, rfl⟩
  have HWs : Hid (∀ r : Nat, r ≤ A.length → Wd (fun j => spB (cR A (A.length - 1 - j))) A.length (A.length - r) → ((r : Nat) : Int) = N) := hide (fun r hr h => by
    have h1 : wdL A = A.length - r := wdN_eq h
    rw [hw0, h1]
    omega)
  clear hw0
  have HNA := hide hnA
  have HNB := hide hnB
  clear hA hB hnA hnB
  obtain ⟨V, hV⟩ : ∃ V, V = (w.alloc (.cells #[.string a, .string b, .string c, .slice ao un.length ca] 25)).alloc (.cells #[.string { data := #[] }, .string { data := #[] }, .string { data := #[] }, .slice none 0 0] 25) := ⟨_, rfl⟩
  have E0 : Ext w V := by rw [hV]; exact ((Ext.refl w).alloc _).alloc _
  have HB0 : Hid (V.heap[w.heap.size]? = some (.cells #[.string a, .string b, .string c, .slice ao un.length ca] 25 (0, 0))) := hide (by rw [hV]; exact ((Ext.refl _).alloc _).kept (new_block w _))
  have HB1 : Hid (V.heap[w.heap.size + 1]? = some (.cells #[.string { data := #[] }, .string { data := #[] }, .string { data := #[] }, .slice none 0 0] 25 (0, 0))) := hide (by rw [hV]; have h := new_block (w.alloc (.cells #[.string a, .string b, .string c, .slice ao un.length ca] 25)) (.cells #[.string { data := #[] }, .string { data := #[] }, .string { data := #[] }, .slice none 0 0] 25); rw [show (w.alloc (.cells #[.string a, .string b, .string c, .slice ao un.length ca] 25)).heap.size = w.heap.size + 1 by simp] at h; exact h)
  have sz0 : w.heap.size + 1 < V.heap.size := lt_of_block (unhide HB1)
  have HW := hide hV
  have HE0 := hide E0
  clear hV E0
  go_enter Tryz.func31, Tryz.ntmps31
  go_wp2_with fail
  rw [← unhide HW]
  clear HW
  refine ((unhide hcA) _).mono ?_
  rintro e w2 ⟨v2, rs2, rfl, o2, E2⟩
  obtain ⟨a2, c2, rfl⟩ : ∃ a c, v2 = .slice a A.length c := by
    obtain ⟨_, ao, cc, e, _⟩ := o2.cls
    exact ⟨ao, cc, e⟩
  have H2 := hide o2.cls
  rw [unhide HNA] at H2 ⊢
  replace HB0 := hide (E2.kept (unhide HB0))
  replace HB1 := hide (E2.kept (unhide HB1))
  replace HE0 := hide ((unhide HE0).trans E2)
  have q1 : w2.cell? ⟨w.heap.size, 1, none⟩ = some (.string b) := cells_of (unhide HB0) 1 _ rfl
  have z2 := E2.size
  clear o2 E2 hcA
  go_wp2_with fail
  refine ((unhide hcB) _).mono ?_
  rintro e w3 ⟨v3, rs3, rfl, o3, E3⟩
  obtain ⟨a3, c3, rfl⟩ : ∃ a c, v3 = .slice a B.length c := by
    obtain ⟨_, ao, cc, e, _⟩ := o3.cls
    exact ⟨ao, cc, e⟩
  have H3 := hide o3.cls
  rw [unhide HNB] at H3 ⊢
  replace H2 := hide ((unhide H2).ext E3)
  replace HB0 := hide (E3.kept (unhide HB0))
  replace HB1 := hide (E3.kept (unhide HB1))
  replace HE0 := hide ((unhide HE0).trans E3)
  have z3 := E3.size
  clear o3 E3 hcB q1
  go_wp2_with fail
  refine ((unhide HWd) _ _ (unhide H2)).mono ?_
  rintro e w4 ⟨r, rfl, hrl, hwd, E4⟩
  have hrN := (unhide HWs) r hrl hwd
  rw [hrN]
  replace HB0 := hide (E4.kept (unhide HB0))
  replace HB1 := hide (E4.kept (unhide HB1))
  replace HE0 := hide ((unhide HE0).trans E4)
  have z4 := E4.size
  clear hrN hrl hwd E4 HWd HWs
  have HMc := hide ((unhide HMv) w4 (unhide HE0))
  clear HMv H2 H3 HNA HNB
  go_wp2_with (first
    | (refine wpList_load_blk rfl 25 _ rfl (w.heap.size) rfl _ _ _ _ (unhide HB0) Tryz.underlying25 rfl infoL ?_))
  refine (unhide HMc).mono ?_
  rintro e w5 ⟨⟨v5, rfl, hl5⟩, E5⟩
  obtain ⟨ua, uc, rfl⟩ : ∃ ua uc, v5 = .slice ua un.length uc := by
    obtain ⟨x, y, e, _⟩ := hl5.reads
    exact ⟨x, y, e⟩
  have HL5 := hide hl5
  replace HB1 := hide (E5.kept (unhide HB1))
  replace HE0 := hide ((unhide HE0).trans E5)
  have HN := hide (heap_alloc_new w5 (.cells #[.string { data := #[] }, .string { data := #[] }, .string { data := #[] }, .slice none 0 0] 25))
  have hz5 : w.heap.size + 1 < w5.heap.size := lt_of_block (unhide HB1)
  clear HMc E5 hl5 HB0
  dsimp only
  go_wp2_with (first
    | (refine wpList_store_blk rfl 25 _ _ rfl rfl (w5.heap.size) rfl _ _ _ rfl (unhide HN) infoL rfl (by simp [Value.oneCell']) ?_; intro U hB hU; have hU1 := hU.ext ((Ext.refl w5).alloc _) (fun q hq => by omega); have HEU := hide hU1; have HBU := hide hB; have HB1s := hide (hU1.kept (unhide HB1)); clear hB hU hU1)
    | (refine wpList_load_blk rfl 25 _ rfl (w5.heap.size) rfl _ _ _ _ (unhide HBU) Tryz.underlying25 rfl infoL ?_)
    | (refine wpList_store_blk rfl 25 _ _ rfl rfl (w.heap.size + 1) rfl _ _ _ rfl (unhide HB1s) infoL rfl (by simp [Value.oneCell']) ?_; intro Z hy hf9; have HY := hide hy; have FY := hide hf9; clear hy hf9))
  have v0 : Z.cell? ⟨w.heap.size + 1, 0, none⟩ = some (.string XA) := cells_of (unhide HY) 0 _ rfl
  have v1 : Z.cell? ⟨w.heap.size + 1, 1, none⟩ = some (.string XB) := cells_of (unhide HY) 1 _ rfl
  have v2 : Z.cell? ⟨w.heap.size + 1, 2, none⟩ = some (.string c) := cells_of (unhide HY) 2 _ rfl
  have v3 : Z.cell? ⟨w.heap.size + 1, 3, none⟩ = some (.slice ua un.length uc) := cells_of (unhide HY) 3 _ rfl
  exact bodyPost_ret (v := .tuple #[.agg #[.string XA, .string XB, .string c, .slice ua un.length uc], .int .i64 1]) (by simp [results, Tryz.results31, go_sem, v0, v1, v2, v3]) rfl ⟨⟨_, rfl, (((unhide HL5).ext (unhide HEU)).fr (unhide FY) (fun g hg e9 => by have := ((unhide HL5).lt g hg).1; omega)).mono (by omega)⟩, (unhide FY).ext ((unhide HE0).trans (unhide HEU)) (fun q hq => by omega)⟩
end Go.Proofs.YtokjpnlmkecleaaGreatDoor
