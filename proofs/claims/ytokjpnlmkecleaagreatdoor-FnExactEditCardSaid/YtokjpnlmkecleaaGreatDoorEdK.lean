import Derived.Test.YtokjpnlmkecleaaGreatDoorLnSet
namespace Go.Proofs.YtokjpnlmkecleaaGreatDoor
open Go.RowKit

set_option maxRecDepth 10000 in
set_option maxHeartbeats 4000000 in
theorem l4Killed_no (a b c l r : ByteArray) (v : Value) (n : Nat) (tx hf : Nat → ByteArray) (w : World) (hv : Row2At w v n (fun j => .string (tx j)) (fun j => .string (hf j))) (hn : n ≤ 50) :
    Calls Tryz.prog 34 #[.agg #[.string a, .string b, .string c, v], .string { data := #[] }, .string l, .string r] w fun e w' => ∃ v', e = .returned (.tuple #[.agg #[.string a, .string b, .string c, v'], .int .i64 2]) ∧ Own2 w' w.heap.size 49 v' n (fun j => .string (tx j)) (fun j => .string (hf j)) ∧ Ext w w' := by
  have infoL : (Tryz.prog.info? 25).map (·.size) = some 4 := by kernel_rfl
  have HC := hide (fun W (E : Ext w W) => l4Copy_any a b c v n tx hf W (hv.ext E) (by omega))
  obtain ⟨ao, ca, rfl, _, _⟩ := hv
  obtain ⟨V, hV⟩ : ∃ V, V = (w.alloc (.cells #[.string a, .string b, .string c, .slice ao n ca] 25)).alloc (.cells #[.string { data := #[] }, .string { data := #[] }, .string { data := #[] }, .slice none 0 0] 25) := ⟨_, rfl⟩
  have E0 : Ext w V := by rw [hV]; exact ((Ext.refl w).alloc _).alloc _
  have HB1 : Hid (V.heap[w.heap.size + 1]? = some (.cells #[.string { data := #[] }, .string { data := #[] }, .string { data := #[] }, .slice none 0 0] 25 (0, 0))) := hide (by rw [hV]; have h := new_block (w.alloc (.cells #[.string a, .string b, .string c, .slice ao n ca] 25)) (.cells #[.string { data := #[] }, .string { data := #[] }, .string { data := #[] }, .slice none 0 0] 25); rw [show (w.alloc (.cells #[.string a, .string b, .string c, .slice ao n ca] 25)).heap.size = w.heap.size + 1 by simp] at h; exact h)
  have sz0 : w.heap.size + 1 < V.heap.size := lt_of_block (unhide HB1)
  have HV := hide hV
  clear hV
  go_enter Tryz.func34, Tryz.ntmps34
  go_wp2_with fail
  rw [← unhide HV]
  clear HV
  refine ((unhide HC) _ E0).mono ?_
  rintro e w1 ⟨ua, uc, rfl, HO, E1⟩
  replace HB1 := hide (E1.kept (unhide HB1))
  have HE := hide (E0.trans E1)
  clear HC E0 E1
  go_wp2_with (first
    | (refine wpList_store_blk rfl 25 _ _ rfl rfl (w.heap.size + 1) rfl _ _ _ rfl (unhide HB1) infoL rfl (by simp [Value.oneCell']) ?_; intro Z hy hf9; have HY := hide hy; have FY := hide hf9; clear hy hf9))
  have v0 : Z.cell? ⟨w.heap.size + 1, 0, none⟩ = some (.string a) := cells_of (unhide HY) 0 _ rfl
  have v1 : Z.cell? ⟨w.heap.size + 1, 1, none⟩ = some (.string b) := cells_of (unhide HY) 1 _ rfl
  have v2 : Z.cell? ⟨w.heap.size + 1, 2, none⟩ = some (.string c) := cells_of (unhide HY) 2 _ rfl
  have v3 : Z.cell? ⟨w.heap.size + 1, 3, none⟩ = some (.slice ua n uc) := cells_of (unhide HY) 3 _ rfl
  exact bodyPost_ret (v := .tuple #[.agg #[.string a, .string b, .string c, .slice ua n uc], .int .i64 2]) (by simp [results, Tryz.results34, go_sem, v0, v1, v2, v3]) rfl ⟨_, rfl, ((unhide HO).fr (unhide FY) (fun g hg e9 => by have := ((unhide HO).lt g hg).1; omega)).mono (by omega), (unhide FY).ext (unhide HE) (fun q hq => by omega)⟩
set_option maxRecDepth 10000 in
set_option maxHeartbeats 4000000 in
theorem l4Killed_yes (a b c t l r : ByteArray) (ht : t.toList ≠ []) (v : Value) (n : Nat) (tx hf : Nat → ByteArray) (w : World) (hv : Row2At w v n (fun j => .string (tx j)) (fun j => .string (hf j))) (hn : n ≤ 50) :
    Calls Tryz.prog 34 #[.agg #[.string a, .string b, .string c, v], .string t, .string l, .string r] w fun e w' => ∃ v', e = .returned (.tuple #[.agg #[.string l, .string r, .string t, v'], .int .i64 1]) ∧ Own2 w' w.heap.size 49 v' (undoN (unL tx hf n) (a, b)).length (fun j => .string (lnT (undoN (unL tx hf n) (a, b)) j)) (fun j => .string (lnH (undoN (unL tx hf n) (a, b)) j)) ∧ Ext w w' := by
  have infoL : (Tryz.prog.info? 25).map (·.size) = some 4 := by kernel_rfl
  have HC := hide (fun W (E : Ext w W) => l4Set_any a b c l r v n tx hf W (hv.ext E) hn)
  obtain ⟨uz, huz⟩ : ∃ uz, uz = undoN (unL tx hf n) (a, b) := ⟨_, rfl⟩
  rw [← huz] at HC ⊢
  have ht2 : t.toList.isEmpty = false := by cases h : t.toList with | nil => exact absurd h ht | cons x y => rfl
  clear huz
  obtain ⟨ao, ca, rfl, _, _⟩ := hv
  obtain ⟨V, hV⟩ : ∃ V, V = (w.alloc (.cells #[.string a, .string b, .string c, .slice ao n ca] 25)).alloc (.cells #[.string { data := #[] }, .string { data := #[] }, .string { data := #[] }, .slice none 0 0] 25) := ⟨_, rfl⟩
  have E0 : Ext w V := by rw [hV]; exact ((Ext.refl w).alloc _).alloc _
  have HB1 : Hid (V.heap[w.heap.size + 1]? = some (.cells #[.string { data := #[] }, .string { data := #[] }, .string { data := #[] }, .slice none 0 0] 25 (0, 0))) := hide (by rw [hV]; have h := new_block (w.alloc (.cells #[.string a, .string b, .string c, .slice ao n ca] 25)) (.cells #[.string { data := #[] }, .string { data := #[] }, .string { data := #[] }, .slice none 0 0] 25); rw [show (w.alloc (.cells #[.string a, .string b, .string c, .slice ao n ca] 25)).heap.size = w.heap.size + 1 by simp] at h; exact h)
  have sz0 : w.heap.size + 1 < V.heap.size := lt_of_block (unhide HB1)
  have HV := hide hV
  clear hV
  go_enter Tryz.func34, Tryz.ntmps34
  go_wp2_with fail
  rw [← unhide HV]
  clear HV
  refine ((unhide HC) _ E0).mono ?_
  rintro e w1 ⟨v1, rfl, hO, E1⟩
  obtain ⟨ua, un, uc, rfl⟩ : ∃ ua un uc, v1 = .slice ua un uc := by
    obtain ⟨g1, g2, e1, _⟩ := hO.reads
    exact ⟨_, _, _, e1⟩
  have HO := hide hO
  replace HB1 := hide (E1.kept (unhide HB1))
  have HE := hide (E0.trans E1)
  have z1 := E1.size
  have hb1 := lt_of_block (unhide HB1)
  have HN := hide (heap_alloc_new w1 (.cells #[.string { data := #[] }, .string { data := #[] }, .string { data := #[] }, .slice none 0 0] 25))
  clear HC E0 E1 hO
  go_wp2_with (first
    | (refine wpList_store_blk rfl 25 _ _ rfl rfl (w1.heap.size) rfl _ _ _ rfl (unhide HN) infoL rfl (by simp [Value.oneCell']) ?_; intro U hB hU; have hU1 := hU.ext ((Ext.refl w1).alloc _) (fun q hq => by omega); have HEU := hide hU1; have HBU := hide hB; have u2 : U.cell? ⟨w1.heap.size, 2, none⟩ = some (.string c) := cells_of hB 2 _ rfl; have fu : ∀ i, U.frozen? ⟨w1.heap.size, i, none⟩ = false := fun i => Lib.frozen_of_heap hB i; have HBs := hide (set_blk2 (i := 2) (v := .string t) (cs' := #[.string l, .string r, .string t, .slice ua un uc]) hB rfl); have HB1s := hide (set_else (c := w1.heap.size) (i := 2) (v := .string t) (hU1.kept (unhide HB1)) (by omega)); clear hB hU hU1)
    | (refine wpList_load_blk rfl 25 _ rfl (w1.heap.size) rfl _ _ _ _ (unhide HBs) Tryz.underlying25 rfl infoL ?_)
    | (refine wpList_store_blk rfl 25 _ _ rfl rfl (w.heap.size + 1) rfl _ _ _ rfl (unhide HB1s) infoL rfl (by simp [Value.oneCell']) ?_; intro Z hy hf9; have HY := hide hy; have FY := hide hf9; clear hy hf9))
  have v0 : Z.cell? ⟨w.heap.size + 1, 0, none⟩ = some (.string l) := cells_of (unhide HY) 0 _ rfl
  have v1 : Z.cell? ⟨w.heap.size + 1, 1, none⟩ = some (.string r) := cells_of (unhide HY) 1 _ rfl
  have v2 : Z.cell? ⟨w.heap.size + 1, 2, none⟩ = some (.string t) := cells_of (unhide HY) 2 _ rfl
  have v3 : Z.cell? ⟨w.heap.size + 1, 3, none⟩ = some (.slice ua un uc) := cells_of (unhide HY) 3 _ rfl
  have FZ : Fr (fun q => q = w1.heap.size ∨ q = w.heap.size + 1) U Z := (Fr.setCell (S := fun q => q = w1.heap.size ∨ q = w.heap.size + 1) (Fr.refl _ U) (a := ⟨w1.heap.size, 2, none⟩) (.inl rfl) _).tr ((unhide FY).mono (fun q hq => .inr hq))
  exact bodyPost_ret (v := .tuple #[.agg #[.string l, .string r, .string t, .slice ua un uc], .int .i64 1]) (by simp [results, Tryz.results34, go_sem, v0, v1, v2, v3]) rfl ⟨_, rfl, (((unhide HO).ext (unhide HEU)).fr FZ (fun g hg e9 => by have := (unhide HO).lt g hg; omega)).mono (by omega), FZ.ext ((unhide HE).trans (unhide HEU)) (fun q hq => by omega)⟩
end Go.Proofs.YtokjpnlmkecleaaGreatDoor
