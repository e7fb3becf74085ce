import Derived.Test.YtokjpnlmkecleaaGreatDoorGap
import Derived.Test.YtokjpnlmkecleaaGreatDoorEdK
import Derived.Test.YtokjpnlmkecleaaGreatDoorLineS
import Derived.Test.YtokjpnlmkecleaaGreatDoorItemOk
import Derived.Deep.RegionHeld3
namespace Go.Proofs.YtokjpnlmkecleaaGreatDoor
open Go.RowKit

set_option linter.unusedSimpArgs false in
set_option maxRecDepth 10000 in
set_option maxHeartbeats 8000000 in
theorem l4Put_zero (a b c : ByteArray) (v : Value) (un : List (ByteArray × ByteArray)) (rv : Value) (rs : List Int) (w : World) (hv : LnAt w v un) (hn : un.length ≤ 50) (_za : a.size ≤ 1048576) (_zb : b.size ≤ 1048576) (hr : IntsAt w .i32 rv rs) (h0 : rs.length = 0) :
    Calls Tryz.prog 32 #[.agg #[.string a, .string b, .string c, v], rv] w fun e w' => LnO w' w.heap.size ⟨a, b, c, un, 0⟩ e ∧ Ext w w' := by
  have infoL : (Tryz.prog.info? 25).map (·.size) = some 4 := by kernel_rfl
  obtain ⟨ao, ca, rfl, _, _⟩ := id hv
  obtain ⟨ra, rc, rfl, _⟩ := id hr
  have HC := hide (fun W (E : Ext w W) => l4Copy_any a b c (.slice ao un.length ca) un.length (lnT un) (lnH un) W (Row2At.ext hv E) (by omega))
  clear hv hr
  rw [h0]
  obtain ⟨V, hV⟩ : ∃ V, V = (w.alloc (.cells #[.string a, .string b, .string c, .slice ao un.length ca] 25)).alloc (.cells #[.string { data := #[] }, .string { data := #[] }, .string { data := #[] }, .slice none 0 0] 25) := ⟨_, rfl⟩
  have E0 : Ext w V := by rw [hV]; exact ((Ext.refl w).alloc _).alloc _
  have HB0 : Hid (V.heap[w.heap.size]? = some (.cells #[.string a, .string b, .string c, .slice ao un.length ca] 25 (0, 0))) := hide (by rw [hV]; exact ((Ext.refl _).alloc _).kept (new_block w _))
  have HB1 : Hid (V.heap[w.heap.size + 1]? = some (.cells #[.string { data := #[] }, .string { data := #[] }, .string { data := #[] }, .slice none 0 0] 25 (0, 0))) := hide (by rw [hV]; have h := new_block (w.alloc (.cells #[.string a, .string b, .string c, .slice ao un.length ca] 25)) (.cells #[.string { data := #[] }, .string { data := #[] }, .string { data := #[] }, .slice none 0 0] 25); rw [show (w.alloc (.cells #[.string a, .string b, .string c, .slice ao un.length ca] 25)).heap.size = w.heap.size + 1 by simp] at h; exact h)
  have sz0 : w.heap.size + 1 < V.heap.size := lt_of_block (unhide HB1)
  subst hV
  have HE0 := hide E0
  have HCV := hide ((unhide HC) _ E0)
  clear E0 HC
  go_enter Tryz.func32, Tryz.ntmps32
  have HCc := HCV
  go_wp2_with (first
    | (refine wpList_load_blk rfl 25 _ rfl (w.heap.size) rfl _ _ _ _ (unhide HB0) Tryz.underlying25 rfl infoL ?_))
  refine (unhide HCc).mono ?_
  rintro e w5 ⟨ua, uc, rfl, HO, E5⟩
  have z5 := (unhide HE0).size
  replace HB1 := hide (E5.kept (unhide HB1))
  replace HE0 := hide ((unhide HE0).trans E5)
  clear E5 HB0 HCc
  go_wp2_with (first
    | (refine wpList_store_blk rfl 25 _ _ rfl rfl (w.heap.size + 1) rfl _ _ _ rfl (unhide HB1) infoL rfl (by simp [Value.oneCell']) ?_; intro Z hy hf9; have HY := hide hy; have FY := hide hf9; clear hy hf9))
  have v0 : Z.cell? ⟨w.heap.size + 1, 0, none⟩ = some (.string a) := cells_of (unhide HY) 0 _ rfl
  have v1 : Z.cell? ⟨w.heap.size + 1, 1, none⟩ = some (.string b) := cells_of (unhide HY) 1 _ rfl
  have v2 : Z.cell? ⟨w.heap.size + 1, 2, none⟩ = some (.string c) := cells_of (unhide HY) 2 _ rfl
  have v3 : Z.cell? ⟨w.heap.size + 1, 3, none⟩ = some (.slice ua un.length uc) := cells_of (unhide HY) 3 _ rfl
  exact bodyPost_ret (v := .tuple #[.agg #[.string a, .string b, .string c, .slice ua un.length uc], .int .i64 0]) (by simp [results, Tryz.results32, go_sem, v0, v1, v2, v3]) rfl (⟨⟨_, rfl, ((unhide HO).fr (unhide FY) (fun g hg e9 => by have := ((unhide HO).lt g hg).1; omega)).mono (by omega)⟩, (unhide FY).ext (unhide HE0) (fun q hq => by omega)⟩)
set_option linter.unusedSimpArgs false in
set_option maxRecDepth 10000 in
set_option maxHeartbeats 8000000 in
theorem l4Put_big (a b c : ByteArray) (v : Value) (un : List (ByteArray × ByteArray)) (rv : Value) (rs : List Int) (w : World) (hv : LnAt w v un) (hn : un.length ≤ 50) (_za : a.size ≤ 1048576) (_zb : b.size ≤ 1048576) (hr : IntsAt w .i32 rv rs) (h0 : 300 < rs.length) :
    Calls Tryz.prog 32 #[.agg #[.string a, .string b, .string c, v], rv] w fun e w' => LnO w' w.heap.size ⟨a, b, c, un, 2⟩ e ∧ Ext w w' := by
  have infoL : (Tryz.prog.info? 25).map (·.size) = some 4 := by kernel_rfl
  obtain ⟨ao, ca, rfl, _, _⟩ := id hv
  obtain ⟨ra, rc, rfl, _⟩ := id hr
  have HC := hide (fun W (E : Ext w W) => l4Copy_any a b c (.slice ao un.length ca) un.length (lnT un) (lnH un) W (Row2At.ext hv E) (by omega))
  clear hv hr
  obtain ⟨m, hm⟩ : ∃ m, rs.length = m := ⟨_, rfl⟩
  rw [hm] at h0 ⊢
  have h1 : ¬ (m : Int) = 0 := by omega
  have h2 : ¬ m = 0 := by omega
  have h3 : (300 : Int) < (m : Int) := by omega
  obtain ⟨V, hV⟩ : ∃ V, V = (w.alloc (.cells #[.string a, .string b, .string c, .slice ao un.length ca] 25)).alloc (.cells #[.string { data := #[] }, .string { data := #[] }, .string { data := #[] }, .slice none 0 0] 25) := ⟨_, rfl⟩
  have E0 : Ext w V := by rw [hV]; exact ((Ext.refl w).alloc _).alloc _
  have HB0 : Hid (V.heap[w.heap.size]? = some (.cells #[.string a, .string b, .string c, .slice ao un.length ca] 25 (0, 0))) := hide (by rw [hV]; exact ((Ext.refl _).alloc _).kept (new_block w _))
  have HB1 : Hid (V.heap[w.heap.size + 1]? = some (.cells #[.string { data := #[] }, .string { data := #[] }, .string { data := #[] }, .slice none 0 0] 25 (0, 0))) := hide (by rw [hV]; have h := new_block (w.alloc (.cells #[.string a, .string b, .string c, .slice ao un.length ca] 25)) (.cells #[.string { data := #[] }, .string { data := #[] }, .string { data := #[] }, .slice none 0 0] 25); rw [show (w.alloc (.cells #[.string a, .string b, .string c, .slice ao un.length ca] 25)).heap.size = w.heap.size + 1 by simp] at h; exact h)
  have sz0 : w.heap.size + 1 < V.heap.size := lt_of_block (unhide HB1)
  subst hV
  have HE0 := hide E0
  have HCV := hide ((unhide HC) _ E0)
  clear E0 HC
  go_enter Tryz.func32, Tryz.ntmps32
  have HCc := HCV
  go_wp2_with (first
    | (refine wpList_load_blk rfl 25 _ rfl (w.heap.size) rfl _ _ _ _ (unhide HB0) Tryz.underlying25 rfl infoL ?_))
  refine (unhide HCc).mono ?_
  rintro e w5 ⟨ua, uc, rfl, HO, E5⟩
  have z5 := (unhide HE0).size
  replace HB1 := hide (E5.kept (unhide HB1))
  replace HE0 := hide ((unhide HE0).trans E5)
  clear E5 HB0 HCc
  go_wp2_with (first
    | (refine wpList_store_blk rfl 25 _ _ rfl rfl (w.heap.size + 1) rfl _ _ _ rfl (unhide HB1) infoL rfl (by simp [Value.oneCell']) ?_; intro Z hy hf9; have HY := hide hy; have FY := hide hf9; clear hy hf9))
  have v0 : Z.cell? ⟨w.heap.size + 1, 0, none⟩ = some (.string a) := cells_of (unhide HY) 0 _ rfl
  have v1 : Z.cell? ⟨w.heap.size + 1, 1, none⟩ = some (.string b) := cells_of (unhide HY) 1 _ rfl
  have v2 : Z.cell? ⟨w.heap.size + 1, 2, none⟩ = some (.string c) := cells_of (unhide HY) 2 _ rfl
  have v3 : Z.cell? ⟨w.heap.size + 1, 3, none⟩ = some (.slice ua un.length uc) := cells_of (unhide HY) 3 _ rfl
  exact bodyPost_ret (v := .tuple #[.agg #[.string a, .string b, .string c, .slice ua un.length uc], .int .i64 2]) (by simp [results, Tryz.results32, go_sem, v0, v1, v2, v3]) rfl (⟨⟨_, rfl, ((unhide HO).fr (unhide FY) (fun g hg e9 => by have := ((unhide HO).lt g hg).1; omega)).mono (by omega)⟩, (unhide FY).ext (unhide HE0) (fun q hq => by omega)⟩)
end Go.Proofs.YtokjpnlmkecleaaGreatDoor

namespace Go.Proofs.YtokjpnlmkecleaaGreatDoor
open Go.RowKit

set_option linter.unusedSimpArgs false in
set_option maxRecDepth 10000 in
set_option maxHeartbeats 8000000 in
theorem l4Put_bell (a b c : ByteArray) (v : Value) (un : List (ByteArray × ByteArray)) (rv : Value) (rs : List Int) (w : World) (hv : LnAt w v un) (hn : un.length ≤ 50) (za : a.size ≤ 1048576) (zb : b.size ≤ 1048576) (hr : IntsAt w .i32 rv rs) (iR : I32s rs) (h0 : 0 < rs.length ∧ rs.length ≤ 300) (na : (cleanL (baL a)).length ≤ 300) (hb : 300 < (flat (clusC (cleanL (baL a) ++ rs))).length + (cleanL (baL b)).length) :
    Calls Tryz.prog 32 #[.agg #[.string a, .string b, .string c, v], rv] w fun e w' => LnO w' w.heap.size ⟨a, b, c, un, 2⟩ e ∧ Ext w w' := by
  have infoL : (Tryz.prog.info? 25).map (·.size) = some 4 := by kernel_rfl
  obtain ⟨ao, ca, rfl, _, _⟩ := id hv
  obtain ⟨ra, rc, rfl, _⟩ := id hr
  have HC := hide (fun W (E : Ext w W) => l4Copy_any a b c (.slice ao un.length ca) un.length (lnT un) (lnH un) W (Row2At.ext hv E) (by omega))
  obtain ⟨ic, hic, hc0, hc1, hc2⟩ := info_parts infoI32u
  have HS := hide (fun l r W (E : Ext w W) => l4Set_any a b c l r (.slice ao un.length ca) un.length (lnT un) (lnH un) W (Row2At.ext hv E) hn)
  rw [unL_ln] at HS
  have HSr := hide (fun W (E : Ext w W) => Src.ints (hr.ext E))
  obtain ⟨h0, h1⟩ := h0
  have hN : (cleanL (baL a) ++ rs).length ≤ 600 := by rw [List.length_append]; omega
  have fl6 : (flat (clusC (cleanL (baL a) ++ rs))).length ≤ 2000 := by
    rw [flat_len]
    have := clF_sum (cleanL (baL a) ++ rs) (cleanL (baL a) ++ rs).length
    have h2 := clF_len (cleanL (baL a) ++ rs) (cleanL (baL a) ++ rs).length
    unfold clusC
    omega
  obtain ⟨X, hX⟩ : ∃ X, X = toBA (textC (clusC (cleanL (baL a) ++ rs))) := ⟨_, rfl⟩
  have HK := hide (fun v W (hv : IntsAt W .i32 v (cleanL (baL a) ++ rs)) => specClusters_any v _ W hv (fun z hz => (List.mem_append.1 hz).elim (cleanL_i32 _ z) (iR z)) (by omega))
  have HTx := hide (fun v W (hv : ClsAt W v (clusC (cleanL (baL a) ++ rs))) => specTextOf_any v _ W hv (clusC_fit _ (by omega)) (fun j _ => clF_i32 _ _ j))
  have HCt := hide (fun W => l4Count_any (textC (clusC (cleanL (baL a) ++ rs))) (txT_bytes _ _) W (by rw [textC_flat]; have := encA_len (flat (clusC (cleanL (baL a) ++ rs))); omega))
  rw [clean_text] at HCt
  rw [← hX] at HTx HCt
  have HCb := hide (fun W => l4Count_ba b W zb)
  obtain ⟨f1, hf1⟩ : ∃ n, (flat (clusC (cleanL (baL a) ++ rs))).length = n := ⟨_, rfl⟩
  obtain ⟨f2, hf2⟩ : ∃ n, (cleanL (baL b)).length = n := ⟨_, rfl⟩
  have z2 : f2 ≤ 1048576 := by rw [← hf2]; have := cleanL_len (baL b); rw [baL_len] at this; omega
  rw [hf1] at HCt fl6 hb
  rw [hf2] at HCb hb
  have hw : IntKind.i64.wrap ((f1 : Int) + (f2 : Int)) = (f1 : Int) + (f2 : Int) := by rw [IntKind.wrap_i64]; omega
  have HXX := hide hX
  have lcl := cleanL_len (baL a)
  rw [baL_len] at lcl
  have HL : Hid (cleanL (baL a) = cleanL (baL a)) := hide rfl
  clear hv hX hf1 hf2
  obtain ⟨m, hm⟩ : ∃ m, rs.length = m := ⟨_, rfl⟩
  have HM := hide hm
  rw [hm] at h0 h1 ⊢
  have g1 : ¬ (m : Int) = 0 := by omega
  have g2 : ¬ m = 0 := by omega
  have g3 : ¬ (300 : Int) < (m : Int) := by omega
  clear hm
  obtain ⟨V, hV⟩ : ∃ V, V = (w.alloc (.cells #[.string a, .string b, .string c, .slice ao un.length ca] 25)).alloc (.cells #[.string { data := #[] }, .string { data := #[] }, .string { data := #[] }, .slice none 0 0] 25) := ⟨_, rfl⟩
  have E0 : Ext w V := by rw [hV]; exact ((Ext.refl w).alloc _).alloc _
  have HB0 : Hid (V.heap[w.heap.size]? = some (.cells #[.string a, .string b, .string c, .slice ao un.length ca] 25 (0, 0))) := hide (by rw [hV]; exact ((Ext.refl _).alloc _).kept (new_block w _))
  have HB1 : Hid (V.heap[w.heap.size + 1]? = some (.cells #[.string { data := #[] }, .string { data := #[] }, .string { data := #[] }, .slice none 0 0] 25 (0, 0))) := hide (by rw [hV]; have h := new_block (w.alloc (.cells #[.string a, .string b, .string c, .slice ao un.length ca] 25)) (.cells #[.string { data := #[] }, .string { data := #[] }, .string { data := #[] }, .slice none 0 0] 25); rw [show (w.alloc (.cells #[.string a, .string b, .string c, .slice ao un.length ca] 25)).heap.size = w.heap.size + 1 by simp] at h; exact h)
  have sz0 : w.heap.size + 1 < V.heap.size := lt_of_block (unhide HB1)
  obtain ⟨v0, w0, hrun, i0, E1⟩ := run_s2i (P := Tryz.prog) V _ _ _ Tryz.underlying9 Tryz.underlying22 Tryz.underlying5 (baL a) (baL_bytes a)
  rw [toBA_baL] at hrun
  have HCl := hide (specClean_any (baL a) (baL_bytes a) v0 w0 i0 (by rw [baL_len]; omega))
  have q0 : V.cell? ⟨w.heap.size, 0, none⟩ = some (.string a) := cells_of (unhide HB0) 0 _ rfl
  rw [hV] at hrun q0
  replace HB0 := hide (E1.kept (unhide HB0))
  replace HB1 := hide (E1.kept (unhide HB1))
  have HE0 := hide (E0.trans E1)
  have z0 := E1.size
  have HBz0 := HB0
  have HBz1 := HB1
  have HEz := HE0
  clear hV E0 E1 i0 hr
  go_enter Tryz.func32, Tryz.ntmps32
  go_wp2_with fail
  refine (unhide HCl).mono ?_
  rintro e w1 ⟨v1, rfl, o1, E1⟩
  obtain ⟨a1, c1, rfl⟩ := owns_ln o1
  replace HB0 := hide (E1.kept (unhide HB0))
  replace HB1 := hide (E1.kept (unhide HB1))
  replace HE0 := hide ((unhide HE0).trans E1)
  have z1 := E1.size
  have HO1 := hide o1
  have HX1 := hide E1
  clear HCl E1 o1 hrun q0
  go_wp2_with (at_builtin; go_loud (
     refine wpList_app rfl _ _ 26 rfl w0.heap.size 21 ic (.int .i32 0) 1 4 Tryz.underlying26 hic hc0 hc1 hc2 rfl (by decide) (.slice a1 (cleanL (baL a)).length c1) _ _ rfl (unhide HO1) _ _ _ rfl (by have := (unhide HSr) w1 (unhide HE0); rw [unhide HM] at this; exact this) (by unfold maxLen; omega) (by omega) z1 ?_
     intro v3 w3 o3 G3 _
     have E3 : Ext w0 w3 := (by exact Ext.grown (w := w0) (W := w1) (unhide HX1) G3 (fun b hb => ((unhide HO1).lt b hb).1))
     have i3 : IntsAt w3 .i32 v3 (cleanL (baL a) ++ rs) := (by
       have e2 : (cleanL (baL a)).length + m = (cleanL (baL a) ++ rs).length := (by rw [List.length_append, unhide HM])
       rw [← List.map_append, e2] at o3
       exact ints_of_owns o3)
     obtain ⟨a3, c3, rfl⟩ := owns_ln o3
     have HI3 := hide i3
     have HE3 := hide E3
     clear o3 G3 E3 i3))
  refine ((unhide HK) _ w3 (unhide HI3)).mono ?_
  rintro e w4 ⟨v4, rs4, rfl, o4, E4⟩
  have HT4 := hide ((unhide HTx) _ w4 o4.cls)
  obtain ⟨a4, c4, rfl⟩ : ∃ x y, v4 = .slice x (clusC (cleanL (baL a) ++ rs)).length y := by
    obtain ⟨_, ao, cc, e, _⟩ := o4.cls
    exact ⟨ao, cc, e⟩
  replace HE3 := hide ((unhide HE3).trans E4)
  clear HK HI3 E4 o4 HTx
  go_wp2_with fail
  refine (unhide HT4).mono ?_
  rintro e w5 ⟨rfl, E5⟩
  replace HE3 := hide ((unhide HE3).trans E5)
  replace HB0 := hide ((unhide HE3).kept (unhide HBz0))
  replace HB1 := hide ((unhide HE3).kept (unhide HBz1))
  replace HE0 := hide ((unhide HEz).trans (unhide HE3))
  have z5 := (unhide HE3).size
  have q0 : w5.cell? ⟨w.heap.size, 0, none⟩ = some (.string a) ∧ w5.cell? ⟨w.heap.size, 1, none⟩ = some (.string b) ∧ w5.cell? ⟨w.heap.size, 2, none⟩ = some (.string c) ∧ w5.cell? ⟨w.heap.size, 3, none⟩ = some (.slice ao un.length ca) := ⟨cells_of (unhide HB0) 0 _ rfl, cells_of (unhide HB0) 1 _ rfl, cells_of (unhide HB0) 2 _ rfl, cells_of (unhide HB0) 3 _ rfl⟩
  clear HT4 E5 HO1 HSr HE3 HBz0 HBz1 HEz
  go_wp2_with fail
  refine wp_region_held_drew (S := fun W => W.cell? ⟨w.heap.size, 0, none⟩ = some (.string a) ∧ W.cell? ⟨w.heap.size, 1, none⟩ = some (.string b) ∧ W.cell? ⟨w.heap.size, 2, none⟩ = some (.string c) ∧ W.cell? ⟨w.heap.size, 3, none⟩ = some (.slice ao un.length ca)) (by kernel_rfl) q0 (fun hHeld => ?_)
  refine wpAnyH_take (i := 0) (v := ?_) rfl (by kernel_rfl) (by kernel_rfl) (by kernel_rfl) (fun _ _ _ h => h) (Or.inl ⟨by rfl, ?_⟩) (by assumption) ?_
  rotate_left
  · intro w' hSw; go_simp <;> with_reducible rfl
  simp only [Act.put, List.getElem_toArray, List.getElem_cons_succ, List.getElem_cons_zero, List.setIfInBounds_toArray, List.set_cons_zero, List.set_cons_succ]
  refine wpAnyH_take (i := 2) (v := ?_) rfl (by kernel_rfl) (by kernel_rfl) (by kernel_rfl) (fun _ _ _ h => h) (Or.inl ⟨by rfl, ?_⟩) (by assumption) ?_
  rotate_left
  · intro w' hSw; go_simp <;> with_reducible rfl
  simp only [Act.put, List.getElem_toArray, List.getElem_cons_succ, List.getElem_cons_zero, List.setIfInBounds_toArray, List.set_cons_zero, List.set_cons_succ]
  refine wpAnyH_take (i := 3) (v := ?_) rfl (by kernel_rfl) (by kernel_rfl) (by kernel_rfl) (fun _ _ _ h => h) (Or.inl ⟨by rfl, ?_⟩) (by assumption) ?_
  rotate_left
  · intro w' hSw; go_simp <;> with_reducible rfl
  simp only [Act.put, List.getElem_toArray, List.getElem_cons_succ, List.getElem_cons_zero, List.setIfInBounds_toArray, List.set_cons_zero, List.set_cons_succ]
  refine wpAnyH_ready (rs := [1]) (by kernel_rfl) (by simp) ?_
  refine AllReadyH.cons rfl (fun K hK => ?_) AllReadyH.nil
  go_simp
  go_wp2_with (go_at_call 25; refine ((unhide HCt) _).mono ?_; rintro e w6 ⟨rfl, E6⟩; have F6 : Ext w5 w6 := (by first | exact E6 | exact (Ext.refl _).drew.trans E6); have d0 := F6.kept (unhide HB0); clear E6)
  refine hK.out _ _ ⟨cells_of d0 0 _ rfl, cells_of d0 1 _ rfl, cells_of d0 2 _ rfl, cells_of d0 3 _ rfl⟩ (fun hHeld => ?_)
  clear hK K
  refine wpAnyH_ready (rs := [4]) (by kernel_rfl) (by simp) ?_
  refine AllReadyH.cons rfl (fun K hK => ?_) AllReadyH.nil
  go_simp
  go_wp2_with (go_at_call 25; refine ((unhide HCb) _).mono ?_; rintro e w7 ⟨rfl, E7⟩; have F7 : Ext w5 w7 := (by first | exact F6.trans E7 | exact F6.drew.trans E7); have d1 := F7.kept (unhide HB0); clear E7)
  refine hK.out _ _ ⟨cells_of d1 0 _ rfl, cells_of d1 1 _ rfl, cells_of d1 2 _ rfl, cells_of d1 3 _ rfl⟩ (fun hHeld => ?_)
  clear hK K
  refine wpAnyH_take (i := 5) (v := ?_) rfl (by kernel_rfl) (by kernel_rfl) (by kernel_rfl) (fun _ _ _ h => h) (Or.inl ⟨by rfl, ?_⟩) (by assumption) ?_
  rotate_left
  · intro w' hSw; go_simp <;> with_reducible rfl
  simp only [Act.put, List.getElem_toArray, List.getElem_cons_succ, List.getElem_cons_zero, List.setIfInBounds_toArray, List.set_cons_zero, List.set_cons_succ]
  refine wpAnyH_take (i := 6) (v := ?_) rfl (by kernel_rfl) (by kernel_rfl) (by kernel_rfl) (fun _ _ _ h => h) (Or.inl ⟨by rfl, ?_⟩) (by assumption) ?_
  rotate_left
  · intro w' hSw; go_simp <;> with_reducible rfl
  simp only [Act.put, List.getElem_toArray, List.getElem_cons_succ, List.getElem_cons_zero, List.setIfInBounds_toArray, List.set_cons_zero, List.set_cons_succ]
  refine wpAnyH_done (by kernel_rfl) ?_ _
  replace HB0 := hide d1
  replace HB1 := hide (F7.kept (unhide HB1))
  replace HE0 := hide ((unhide HE0).trans F7)
  have z7 := F7.size
  clear F6 F7 d0 d1 q0
  have hbI : (300 : Int) < (f1 : Int) + (f2 : Int) := by omega
  have HCc := hide ((unhide HC) w7 (unhide HE0))
  clear HC
  go_wp2_with (first
    | (refine wpList_load_blk rfl 25 _ rfl (w.heap.size) rfl _ _ _ _ (unhide HB0) Tryz.underlying25 rfl infoL ?_))
  refine (unhide HCc).mono ?_
  rintro e w5 ⟨ua, uc, rfl, HO, E5⟩
  have z5 := (unhide HE0).size
  replace HB1 := hide (E5.kept (unhide HB1))
  replace HE0 := hide ((unhide HE0).trans E5)
  clear E5 HB0 HCc
  go_wp2_with (first
    | (refine wpList_store_blk rfl 25 _ _ rfl rfl (w.heap.size + 1) rfl _ _ _ rfl (unhide HB1) infoL rfl (by simp [Value.oneCell']) ?_; intro Z hy hf9; have HY := hide hy; have FY := hide hf9; clear hy hf9))
  have v0 : Z.cell? ⟨w.heap.size + 1, 0, none⟩ = some (.string a) := cells_of (unhide HY) 0 _ rfl
  have v1 : Z.cell? ⟨w.heap.size + 1, 1, none⟩ = some (.string b) := cells_of (unhide HY) 1 _ rfl
  have v2 : Z.cell? ⟨w.heap.size + 1, 2, none⟩ = some (.string c) := cells_of (unhide HY) 2 _ rfl
  have v3 : Z.cell? ⟨w.heap.size + 1, 3, none⟩ = some (.slice ua un.length uc) := cells_of (unhide HY) 3 _ rfl
  exact bodyPost_ret (v := .tuple #[.agg #[.string a, .string b, .string c, .slice ua un.length uc], .int .i64 2]) (by simp [results, Tryz.results32, go_sem, v0, v1, v2, v3]) rfl (⟨⟨_, rfl, ((unhide HO).fr (unhide FY) (fun g hg e9 => by have := ((unhide HO).lt g hg).1; omega)).mono (by omega)⟩, (unhide FY).ext (unhide HE0) (fun q hq => by omega)⟩)
end Go.Proofs.YtokjpnlmkecleaaGreatDoor

namespace Go.Proofs.YtokjpnlmkecleaaGreatDoor
open Go.RowKit

set_option linter.unusedSimpArgs false in
set_option maxRecDepth 10000 in
set_option maxHeartbeats 8000000 in
theorem l4Put_yes (a b c : ByteArray) (v : Value) (un : List (ByteArray × ByteArray)) (rv : Value) (rs : List Int) (w : World) (hv : LnAt w v un) (hn : un.length ≤ 50) (za : a.size ≤ 1048576) (zb : b.size ≤ 1048576) (hr : IntsAt w .i32 rv rs) (iR : I32s rs) (h0 : 0 < rs.length ∧ rs.length ≤ 300) (na : (cleanL (baL a)).length ≤ 300) (hb : ¬ 300 < (flat (clusC (cleanL (baL a) ++ rs))).length + (cleanL (baL b)).length) :
    Calls Tryz.prog 32 #[.agg #[.string a, .string b, .string c, v], rv] w fun e w' => LnO w' w.heap.size (edSet a b c un (toBA (textC (clusC (cleanL (baL a) ++ rs)))) b) e ∧ Ext w w' := by
  have infoL : (Tryz.prog.info? 25).map (·.size) = some 4 := by kernel_rfl
  obtain ⟨ao, ca, rfl, _, _⟩ := id hv
  obtain ⟨ra, rc, rfl, _⟩ := id hr
  have HC := hide (fun W (E : Ext w W) => l4Copy_any a b c (.slice ao un.length ca) un.length (lnT un) (lnH un) W (Row2At.ext hv E) (by omega))
  obtain ⟨ic, hic, hc0, hc1, hc2⟩ := info_parts infoI32u
  have HS := hide (fun l r W (E : Ext w W) => l4Set_any a b c l r (.slice ao un.length ca) un.length (lnT un) (lnH un) W (Row2At.ext hv E) hn)
  rw [unL_ln] at HS
  have HSr := hide (fun W (E : Ext w W) => Src.ints (hr.ext E))
  obtain ⟨h0, h1⟩ := h0
  have hN : (cleanL (baL a) ++ rs).length ≤ 600 := by rw [List.length_append]; omega
  have fl6 : (flat (clusC (cleanL (baL a) ++ rs))).length ≤ 2000 := by
    rw [flat_len]
    have := clF_sum (cleanL (baL a) ++ rs) (cleanL (baL a) ++ rs).length
    have h2 := clF_len (cleanL (baL a) ++ rs) (cleanL (baL a) ++ rs).length
    unfold clusC
    omega
  obtain ⟨X, hX⟩ : ∃ X, X = toBA (textC (clusC (cleanL (baL a) ++ rs))) := ⟨_, rfl⟩
  have HK := hide (fun v W (hv : IntsAt W .i32 v (cleanL (baL a) ++ rs)) => specClusters_any v _ W hv (fun z hz => (List.mem_append.1 hz).elim (cleanL_i32 _ z) (iR z)) (by omega))
  have HTx := hide (fun v W (hv : ClsAt W v (clusC (cleanL (baL a) ++ rs))) => specTextOf_any v _ W hv (clusC_fit _ (by omega)) (fun j _ => clF_i32 _ _ j))
  have HCt := hide (fun W => l4Count_any (textC (clusC (cleanL (baL a) ++ rs))) (txT_bytes _ _) W (by rw [textC_flat]; have := encA_len (flat (clusC (cleanL (baL a) ++ rs))); omega))
  rw [clean_text] at HCt
  rw [← hX] at HTx HCt
  have HCb := hide (fun W => l4Count_ba b W zb)
  obtain ⟨f1, hf1⟩ : ∃ n, (flat (clusC (cleanL (baL a) ++ rs))).length = n := ⟨_, rfl⟩
  obtain ⟨f2, hf2⟩ : ∃ n, (cleanL (baL b)).length = n := ⟨_, rfl⟩
  have z2 : f2 ≤ 1048576 := by rw [← hf2]; have := cleanL_len (baL b); rw [baL_len] at this; omega
  rw [hf1] at HCt fl6 hb
  rw [hf2] at HCb hb
  have hw : IntKind.i64.wrap ((f1 : Int) + (f2 : Int)) = (f1 : Int) + (f2 : Int) := by rw [IntKind.wrap_i64]; omega
  have HXX := hide hX
  have lcl := cleanL_len (baL a)
  rw [baL_len] at lcl
  have HL : Hid (cleanL (baL a) = cleanL (baL a)) := hide rfl
  clear hv hX hf1 hf2
  obtain ⟨m, hm⟩ : ∃ m, rs.length = m := ⟨_, rfl⟩
  have HM := hide hm
  rw [hm] at h0 h1 ⊢
  have g1 : ¬ (m : Int) = 0 := by omega
  have g2 : ¬ m = 0 := by omega
  have g3 : ¬ (300 : Int) < (m : Int) := by omega
  clear hm
  obtain ⟨V, hV⟩ : ∃ V, V = (w.alloc (.cells #[.string a, .string b, .string c, .slice ao un.length ca] 25)).alloc (.cells #[.string { data := #[] }, .string { data := #[] }, .string { data := #[] }, .slice none 0 0] 25) := ⟨_, rfl⟩
  have E0 : Ext w V := by rw [hV]; exact ((Ext.refl w).alloc _).alloc _
  have HB0 : Hid (V.heap[w.heap.size]? = some (.cells #[.string a, .string b, .string c, .slice ao un.length ca] 25 (0, 0))) := hide (by rw [hV]; exact ((Ext.refl _).alloc _).kept (new_block w _))
  have HB1 : Hid (V.heap[w.heap.size + 1]? = some (.cells #[.string { data := #[] }, .string { data := #[] }, .string { data := #[] }, .slice none 0 0] 25 (0, 0))) := hide (by rw [hV]; have h := new_block (w.alloc (.cells #[.string a, .string b, .string c, .slice ao un.length ca] 25)) (.cells #[.string { data := #[] }, .string { data := #[] }, .string { data := #[] }, .slice none 0 0] 25); rw [show (w.alloc (.cells #[.string a, .string b, .string c, .slice ao un.length ca] 25)).heap.size = w.heap.size + 1 by simp] at h; exact h)
  have sz0 : w.heap.size + 1 < V.heap.size := lt_of_block (unhide HB1)
  obtain ⟨v0, w0, hrun, i0, E1⟩ := run_s2i (P := Tryz.prog) V _ _ _ Tryz.underlying9 Tryz.underlying22 Tryz.underlying5 (baL a) (baL_bytes a)
  rw [toBA_baL] at hrun
  have HCl := hide (specClean_any (baL a) (baL_bytes a) v0 w0 i0 (by rw [baL_len]; omega))
  have q0 : V.cell? ⟨w.heap.size, 0, none⟩ = some (.string a) := cells_of (unhide HB0) 0 _ rfl
  rw [hV] at hrun q0
  replace HB0 := hide (E1.kept (unhide HB0))
  replace HB1 := hide (E1.kept (unhide HB1))
  have HE0 := hide (E0.trans E1)
  have z0 := E1.size
  have HBz0 := HB0
  have HBz1 := HB1
  have HEz := HE0
  clear hV E0 E1 i0 hr
  go_enter Tryz.func32, Tryz.ntmps32
  go_wp2_with fail
  refine (unhide HCl).mono ?_
  rintro e w1 ⟨v1, rfl, o1, E1⟩
  obtain ⟨a1, c1, rfl⟩ := owns_ln o1
  replace HB0 := hide (E1.kept (unhide HB0))
  replace HB1 := hide (E1.kept (unhide HB1))
  replace HE0 := hide ((unhide HE0).trans E1)
  have z1 := E1.size
  have HO1 := hide o1
  have HX1 := hide E1
  clear HCl E1 o1 hrun q0
  go_wp2_with (at_builtin; go_loud (
     refine wpList_app rfl _ _ 26 rfl w0.heap.size 21 ic (.int .i32 0) 1 4 Tryz.underlying26 hic hc0 hc1 hc2 rfl (by decide) (.slice a1 (cleanL (baL a)).length c1) _ _ rfl (unhide HO1) _ _ _ rfl (by have := (unhide HSr) w1 (unhide HE0); rw [unhide HM] at this; exact this) (by unfold maxLen; omega) (by omega) z1 ?_
     intro v3 w3 o3 G3 _
     have E3 : Ext w0 w3 := (by exact Ext.grown (w := w0) (W := w1) (unhide HX1) G3 (fun b hb => ((unhide HO1).lt b hb).1))
     have i3 : IntsAt w3 .i32 v3 (cleanL (baL a) ++ rs) := (by
       have e2 : (cleanL (baL a)).length + m = (cleanL (baL a) ++ rs).length := (by rw [List.length_append, unhide HM])
       rw [← List.map_append, e2] at o3
       exact ints_of_owns o3)
     obtain ⟨a3, c3, rfl⟩ := owns_ln o3
     have HI3 := hide i3
     have HE3 := hide E3
     clear o3 G3 E3 i3))
  refine ((unhide HK) _ w3 (unhide HI3)).mono ?_
  rintro e w4 ⟨v4, rs4, rfl, o4, E4⟩
  have HT4 := hide ((unhide HTx) _ w4 o4.cls)
  obtain ⟨a4, c4, rfl⟩ : ∃ x y, v4 = .slice x (clusC (cleanL (baL a) ++ rs)).length y := by
    obtain ⟨_, ao, cc, e, _⟩ := o4.cls
    exact ⟨ao, cc, e⟩
  replace HE3 := hide ((unhide HE3).trans E4)
  clear HK HI3 E4 o4 HTx
  go_wp2_with fail
  refine (unhide HT4).mono ?_
  rintro e w5 ⟨rfl, E5⟩
  replace HE3 := hide ((unhide HE3).trans E5)
  replace HB0 := hide ((unhide HE3).kept (unhide HBz0))
  replace HB1 := hide ((unhide HE3).kept (unhide HBz1))
  replace HE0 := hide ((unhide HEz).trans (unhide HE3))
  have z5 := (unhide HE3).size
  have q0 : w5.cell? ⟨w.heap.size, 0, none⟩ = some (.string a) ∧ w5.cell? ⟨w.heap.size, 1, none⟩ = some (.string b) ∧ w5.cell? ⟨w.heap.size, 2, none⟩ = some (.string c) ∧ w5.cell? ⟨w.heap.size, 3, none⟩ = some (.slice ao un.length ca) := ⟨cells_of (unhide HB0) 0 _ rfl, cells_of (unhide HB0) 1 _ rfl, cells_of (unhide HB0) 2 _ rfl, cells_of (unhide HB0) 3 _ rfl⟩
  clear HT4 E5 HO1 HSr HE3 HBz0 HBz1 HEz
  go_wp2_with fail
  refine wp_region_held_drew (S := fun W => W.cell? ⟨w.heap.size, 0, none⟩ = some (.string a) ∧ W.cell? ⟨w.heap.size, 1, none⟩ = some (.string b) ∧ W.cell? ⟨w.heap.size, 2, none⟩ = some (.string c) ∧ W.cell? ⟨w.heap.size, 3, none⟩ = some (.slice ao un.length ca)) (by kernel_rfl) q0 (fun hHeld => ?_)
  refine wpAnyH_take (i := 0) (v := ?_) rfl (by kernel_rfl) (by kernel_rfl) (by kernel_rfl) (fun _ _ _ h => h) (Or.inl ⟨by rfl, ?_⟩) (by assumption) ?_
  rotate_left
  · intro w' hSw; go_simp <;> with_reducible rfl
  simp only [Act.put, List.getElem_toArray, List.getElem_cons_succ, List.getElem_cons_zero, List.setIfInBounds_toArray, List.set_cons_zero, List.set_cons_succ]
  refine wpAnyH_take (i := 2) (v := ?_) rfl (by kernel_rfl) (by kernel_rfl) (by kernel_rfl) (fun _ _ _ h => h) (Or.inl ⟨by rfl, ?_⟩) (by assumption) ?_
  rotate_left
  · intro w' hSw; go_simp <;> with_reducible rfl
  simp only [Act.put, List.getElem_toArray, List.getElem_cons_succ, List.getElem_cons_zero, List.setIfInBounds_toArray, List.set_cons_zero, List.set_cons_succ]
  refine wpAnyH_take (i := 3) (v := ?_) rfl (by kernel_rfl) (by kernel_rfl) (by kernel_rfl) (fun _ _ _ h => h) (Or.inl ⟨by rfl, ?_⟩) (by assumption) ?_
  rotate_left
  · intro w' hSw; go_simp <;> with_reducible rfl
  simp only [Act.put, List.getElem_toArray, List.getElem_cons_succ, List.getElem_cons_zero, List.setIfInBounds_toArray, List.set_cons_zero, List.set_cons_succ]
  refine wpAnyH_ready (rs := [1]) (by kernel_rfl) (by simp) ?_
  refine AllReadyH.cons rfl (fun K hK => ?_) AllReadyH.nil
  go_simp
  go_wp2_with (go_at_call 25; refine ((unhide HCt) _).mono ?_; rintro e w6 ⟨rfl, E6⟩; have F6 : Ext w5 w6 := (by first | exact E6 | exact (Ext.refl _).drew.trans E6); have d0 := F6.kept (unhide HB0); clear E6)
  refine hK.out _ _ ⟨cells_of d0 0 _ rfl, cells_of d0 1 _ rfl, cells_of d0 2 _ rfl, cells_of d0 3 _ rfl⟩ (fun hHeld => ?_)
  clear hK K
  refine wpAnyH_ready (rs := [4]) (by kernel_rfl) (by simp) ?_
  refine AllReadyH.cons rfl (fun K hK => ?_) AllReadyH.nil
  go_simp
  go_wp2_with (go_at_call 25; refine ((unhide HCb) _).mono ?_; rintro e w7 ⟨rfl, E7⟩; have F7 : Ext w5 w7 := (by first | exact F6.trans E7 | exact F6.drew.trans E7); have d1 := F7.kept (unhide HB0); clear E7)
  refine hK.out _ _ ⟨cells_of d1 0 _ rfl, cells_of d1 1 _ rfl, cells_of d1 2 _ rfl, cells_of d1 3 _ rfl⟩ (fun hHeld => ?_)
  clear hK K
  refine wpAnyH_take (i := 5) (v := ?_) rfl (by kernel_rfl) (by kernel_rfl) (by kernel_rfl) (fun _ _ _ h => h) (Or.inl ⟨by rfl, ?_⟩) (by assumption) ?_
  rotate_left
  · intro w' hSw; go_simp <;> with_reducible rfl
  simp only [Act.put, List.getElem_toArray, List.getElem_cons_succ, List.getElem_cons_zero, List.setIfInBounds_toArray, List.set_cons_zero, List.set_cons_succ]
  refine wpAnyH_take (i := 6) (v := ?_) rfl (by kernel_rfl) (by kernel_rfl) (by kernel_rfl) (fun _ _ _ h => h) (Or.inl ⟨by rfl, ?_⟩) (by assumption) ?_
  rotate_left
  · intro w' hSw; go_simp <;> with_reducible rfl
  simp only [Act.put, List.getElem_toArray, List.getElem_cons_succ, List.getElem_cons_zero, List.setIfInBounds_toArray, List.set_cons_zero, List.set_cons_succ]
  refine wpAnyH_done (by kernel_rfl) ?_ _
  replace HB0 := hide d1
  replace HB1 := hide (F7.kept (unhide HB1))
  replace HE0 := hide ((unhide HE0).trans F7)
  have z7 := F7.size
  clear F6 F7 d0 d1 q0
  have hbI : ¬ (300 : Int) < (f1 : Int) + (f2 : Int) := by omega
  have c0 : w7.cell? ⟨w.heap.size, 1, none⟩ = some (.string b) := cells_of (unhide HB0) 1 _ rfl
  have HSc := hide ((unhide HS) X b w7 (unhide HE0))
  clear HS HC
  go_wp2_with (first
    | (refine wpList_load_blk rfl 25 _ rfl (w.heap.size) rfl _ _ _ _ (unhide HB0) Tryz.underlying25 rfl infoL ?_))
  refine (unhide HSc).mono ?_
  rintro e w8 ⟨v8, rfl, hO, E8⟩
  obtain ⟨ua, uc, rfl⟩ : ∃ ua uc, v8 = .slice ua (undoN un (a, b)).length uc := by
    obtain ⟨x, y, e, _⟩ := hO.reads
    exact ⟨x, y, e⟩
  have HO := hide hO
  replace HB1 := hide (E8.kept (unhide HB1))
  replace HE0 := hide ((unhide HE0).trans E8)
  clear E8 HB0 HSc hO c0
  go_wp2_with (first
    | (refine wpList_store_blk rfl 25 _ _ rfl rfl (w.heap.size + 1) rfl _ _ _ rfl (unhide HB1) infoL rfl (by simp [Value.oneCell']) ?_; intro Z hy hf9; have HY := hide hy; have FY := hide hf9; clear hy hf9))
  have v0 : Z.cell? ⟨w.heap.size + 1, 0, none⟩ = some (.string X) := cells_of (unhide HY) 0 _ rfl
  have v1 : Z.cell? ⟨w.heap.size + 1, 1, none⟩ = some (.string b) := cells_of (unhide HY) 1 _ rfl
  have v2 : Z.cell? ⟨w.heap.size + 1, 2, none⟩ = some (.string c) := cells_of (unhide HY) 2 _ rfl
  have v3 : Z.cell? ⟨w.heap.size + 1, 3, none⟩ = some (.slice ua (undoN un (a, b)).length uc) := cells_of (unhide HY) 3 _ rfl
  exact bodyPost_ret (v := .tuple #[.agg #[.string X, .string b, .string c, .slice ua (undoN un (a, b)).length uc], .int .i64 1]) (by simp [results, Tryz.results32, go_sem, v0, v1, v2, v3]) rfl (by rw [← unhide HXX]; exact ⟨⟨_, rfl, ((unhide HO).fr (unhide FY) (fun g hg e9 => by have := ((unhide HO).lt g hg).1; omega)).mono (by omega)⟩, (unhide FY).ext (unhide HE0) (fun q hq => by omega)⟩)
end Go.Proofs.YtokjpnlmkecleaaGreatDoor
