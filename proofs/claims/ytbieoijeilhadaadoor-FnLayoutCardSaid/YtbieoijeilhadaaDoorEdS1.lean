import Derived.Test.YtbieoijeilhadaaDoorGap
import Derived.Test.YtbieoijeilhadaaDoorEdK
import Derived.Deep.RegionHeld3
namespace Go.Proofs.YtbieoijeilhadaaDoor
open Go.RowKit
set_option linter.unusedSimpArgs false in
set_option maxRecDepth 10000 in
set_option maxHeartbeats 8000000 in
theorem l4Gone_5_yes (a b c : ByteArray) (v : Value) (un : List (ByteArray × ByteArray)) (w : World) (hv : LnAt w v un) (hn : un.length ≤ 50) (za : a.size ≤ 1048576) (zb : b.size ≤ 1048576) (hN : 0 < (cutC (baL b)).length) :
    Calls Tryd.prog 126 #[.agg #[.string a, .string b, .string c, v], .int .i64 5] w fun e w' => LnO w' w.heap.size (edSet a b c un a (toBA (textC ((cutC (baL b)).drop 1)))) e ∧ Ext w w' := by
  have infoL : (Tryd.prog.info? 46).map (·.size) = some 4 := by kernel_rfl
  have hcA := hide (fun W => l4Cut_any (baL a) (baL_bytes a) W (by rw [baL_len]; omega))
  have hcB := hide (fun W => l4Cut_any (baL b) (baL_bytes b) W (by rw [baL_len]; omega))
  rw [toBA_baL] at hcA hcB
  have HCA := hide (cuts_one (baL a))
  have HCB := hide (cuts_one (baL b))
  rw [baL_len] at HCA HCB
  have lA := cutC_len (baL a)
  have lB := cutC_len (baL b)
  rw [baL_len] at lA lB
  obtain ⟨ao, ca, rfl, _, _⟩ := id hv
  have HC := hide (fun W (E : Ext w W) => l4Copy_any a b c (.slice ao un.length ca) un.length (lnT un) (lnH un) W (Row2At.ext hv E) (by omega))
  have HS := hide (fun l r W (E : Ext w W) => l4Set_any a b c l r (.slice ao un.length ca) un.length (lnT un) (lnH un) W (Row2At.ext hv E) hn)
  rw [unL_ln] at HS
  clear hv
  obtain ⟨A, hA⟩ : ∃ A, A = cutC (baL a) := ⟨_, rfl⟩
  obtain ⟨B, hB⟩ : ∃ B, B = cutC (baL b) := ⟨_, rfl⟩
  rw [← hB] at hN
  rw [← hA] at hcA lA HCA
  rw [← hB] at hcB lB HCB
  obtain ⟨nA, hnA⟩ : ∃ n, A.length = n := ⟨_, rfl⟩
  obtain ⟨nB, hnB⟩ : ∃ n, B.length = n := ⟨_, rfl⟩
  rw [hnA] at lA
  rw [hnB] at lB
  rw [hnB] at hN
  have HNA := hide hnA
  have HNB := hide hnB
  have HXA := hide hA
  have HXB := hide hB
  clear hA hB hnA hnB
  obtain ⟨V, hV⟩ : ∃ V, V = (w.alloc (.cells #[.string a, .string b, .string c, .slice ao un.length ca] 46)).alloc (.cells #[.string { data := #[] }, .string { data := #[] }, .string { data := #[] }, .slice none 0 0] 46) := ⟨_, rfl⟩
  have E0 : Ext w V := by rw [hV]; exact ((Ext.refl w).alloc _).alloc _
  have HB0 : Hid (V.heap[w.heap.size]? = some (.cells #[.string a, .string b, .string c, .slice ao un.length ca] 46 (0, 0))) := hide (by rw [hV]; exact ((Ext.refl _).alloc _).kept (new_block w _))
  have HB1 : Hid (V.heap[w.heap.size + 1]? = some (.cells #[.string { data := #[] }, .string { data := #[] }, .string { data := #[] }, .slice none 0 0] 46 (0, 0))) := hide (by rw [hV]; have h := new_block (w.alloc (.cells #[.string a, .string b, .string c, .slice ao un.length ca] 46)) (.cells #[.string { data := #[] }, .string { data := #[] }, .string { data := #[] }, .slice none 0 0] 46); rw [show (w.alloc (.cells #[.string a, .string b, .string c, .slice ao un.length ca] 46)).heap.size = w.heap.size + 1 by simp] at h; exact h)
  have sz0 : w.heap.size + 1 < V.heap.size := lt_of_block (unhide HB1)
  have HW := hide hV
  have HE0 := hide E0
  clear hV E0
  go_enter Tryd.func126, Tryd.ntmps126
  go_wp2_with fail
  rw [← unhide HW]
  clear HW
  refine ((unhide hcA) _).mono ?_
  rintro e w2 ⟨v2, rs2, rfl, o2, E2⟩
  obtain ⟨a2, c2, rfl⟩ : ∃ a c, v2 = .slice a A.length c := by
    obtain ⟨_, ao, cc, e, _⟩ := o2.cls
    exact ⟨ao, cc, e⟩
  have H2 := hide o2
  rw [unhide HNA] at H2 ⊢
  replace HB0 := hide (E2.kept (unhide HB0))
  replace HB1 := hide (E2.kept (unhide HB1))
  replace HE0 := hide ((unhide HE0).trans E2)
  have q1 : w2.cell? ⟨w.heap.size, 1, none⟩ = some (.string b) := cells_of (unhide HB0) 1 _ rfl
  have z2 := E2.size
  clear o2 E2 hcA
  go_wp2_with fail
  refine ((unhide hcB) _).mono ?_
  rintro e w3 ⟨v3, rs3, rfl, o3, E3⟩
  obtain ⟨a3, c3, rfl⟩ : ∃ a c, v3 = .slice a B.length c := by
    obtain ⟨_, ao, cc, e, _⟩ := o3.cls
    exact ⟨ao, cc, e⟩
  have H3 := hide o3
  rw [unhide HNB] at H3 ⊢
  replace H2 := hide ((unhide H2).ext E3)
  replace HB0 := hide (E3.kept (unhide HB0))
  replace HB1 := hide (E3.kept (unhide HB1))
  replace HE0 := hide ((unhide HE0).trans E3)
  have z3 := E3.size
  clear o3 E3 hcB q1
  have h2 : (0 : Int) < (nB : Int) := by omega
  have hc3 : nB ≤ c3 := by
    obtain ⟨_, _, _, e9, h9, _⟩ := (unhide H3).cls
    obtain ⟨_, _, rfl⟩ := Value.slice.inj e9
    rw [unhide HNB] at h9
    exact h9
  have b1 : (1 : Int) ≤ (nB : Int) := by omega
  have b2 : (nB : Int) ≤ (c3 : Int) := by omega
  have b3 : ¬ c3 = 0 := by omega
  obtain ⟨g2, hg2⟩ : ∃ g, a3 = some ⟨g, 0, none⟩ := by
    obtain ⟨_, ⟨ys, hy, _⟩, _⟩ := unhide H3
    rcases hy.2 with ⟨_, e0⟩ | ⟨g, cc, cur, e0, _⟩
    · rw [unhide HNB] at e0; omega
    · exact ⟨g, (Value.slice.inj e0).1⟩
  subst hg2
  have HT := hide (fun v W (hv : ClsAt W v (B.drop 1)) => specTextOf_any v _ W hv (by have := ((unhide HCB).part 1 B.length).1; rw [List.take_length] at this; omega) (fun j _ => by have := ((unhide HCB).part 1 B.length).2 j; rw [List.take_length] at this; exact this))
  obtain ⟨TB, hTB⟩ : ∃ x, x = toBA (textC (B.drop 1)) := ⟨_, rfl⟩
  rw [← hTB] at HT
  have HXO : Hid (edSet a b c un a (toBA (textC ((cutC (baL b)).drop 1))) = ⟨a, TB, c, undoN un (a, b), 1⟩) := hide (by rw [hTB, ← unhide HXB]; rfl)
  have HCl : Hid (∀ ad Z, (ad = some ⟨g2, 2, none⟩ ∨ nB - 1 = 0) → nB - 1 ≤ Z → ClsAt w3 (.slice ad (nB - 1) Z) (B.drop 1)) := hide (fun ad Z had hZ => by
    have hcl := (unhide H3).cls
    rw [← unhide HNB] at hcl
    have := hcl.cut 1 B.length Z (by rw [unhide HNB]; omega) (Nat.le_refl _) (by rw [unhide HNB]; omega) ad (by rcases had with rfl | h; exact .inl rfl; exact .inr (by rw [unhide HNB]; exact h))
    rw [List.take_length, unhide HNB] at this
    exact this)
  have q0 : w3.cell? ⟨w.heap.size, 0, none⟩ = some (.string a) ∧ w3.cell? ⟨w.heap.size, 1, none⟩ = some (.string b) ∧ w3.cell? ⟨w.heap.size, 2, none⟩ = some (.string c) ∧ w3.cell? ⟨w.heap.size, 3, none⟩ = some (.slice ao un.length ca) := ⟨cells_of (unhide HB0) 0 _ rfl, cells_of (unhide HB0) 1 _ rfl, cells_of (unhide HB0) 2 _ rfl, cells_of (unhide HB0) 3 _ rfl⟩
  clear hTB H2 H3 HC
  by_cases hc1 : c3 = 1
  · have hnB1 : nB = 1 := by omega
    have HCl0 : Hid (∀ ad Z, ClsAt w3 (.slice ad 0 Z) (B.drop 1)) := hide (fun ad Z => by
      have := (unhide HCl) ad Z (.inr (by omega)) (by omega)
      rw [show nB - 1 = 0 by omega] at this
      exact this)
    subst hc1
    subst hnB1
    go_wp2_with fail
    refine wp_region_held_drew (S := fun W => W.cell? ⟨w.heap.size, 0, none⟩ = some (.string a) ∧ W.cell? ⟨w.heap.size, 1, none⟩ = some (.string b) ∧ W.cell? ⟨w.heap.size, 2, none⟩ = some (.string c) ∧ W.cell? ⟨w.heap.size, 3, none⟩ = some (.slice ao un.length ca)) (by kernel_rfl) q0 (fun hHeld => ?_)
    refine wpAnyH_take (i := 0) (v := ?_) rfl (by kernel_rfl) (by kernel_rfl) (by kernel_rfl) (fun _ _ _ h => h) (Or.inl ⟨by rfl, ?_⟩) (by assumption) ?_
    rotate_left
    · intro w' hSw; go_simp <;> with_reducible rfl
    simp only [Act.put, qA, qB, qC, qD, qE, qF]
    refine wpAnyH_take (i := 1) (v := ?_) rfl (by kernel_rfl) (by kernel_rfl) (by kernel_rfl) (fun _ _ _ h => h) (Or.inl ⟨by rfl, ?_⟩) (by assumption) ?_
    rotate_left
    · intro w' hSw; go_simp <;> with_reducible rfl
    simp only [Act.put, qA, qB, qC, qD, qE, qF]
    refine wpAnyH_take (i := 2) (v := ?_) rfl (by kernel_rfl) (by kernel_rfl) (by kernel_rfl) (fun _ _ _ h => h) (Or.inl ⟨by rfl, ?_⟩) (by assumption) ?_
    rotate_left
    · intro w' hSw; go_simp <;> with_reducible rfl
    simp only [Act.put, qA, qB, qC, qD, qE, qF]
    refine wpAnyH_take (i := 3) (v := ?_) rfl (by kernel_rfl) (by kernel_rfl) (by kernel_rfl) (fun _ _ _ h => h) (Or.inl ⟨by rfl, ?_⟩) (by assumption) ?_
    rotate_left
    · intro w' hSw; go_simp <;> with_reducible rfl
    simp only [Act.put, qA, qB, qC, qD, qE, qF]
    refine wpAnyH_take (i := 4) (v := ?_) rfl (by kernel_rfl) (by kernel_rfl) (by kernel_rfl) (fun _ _ _ h => h) (Or.inl ⟨by rfl, ?_⟩) (by assumption) ?_
    rotate_left
    · intro w' hSw; go_simp <;> with_reducible rfl
    simp only [Act.put, qA, qB, qC, qD, qE, qF]
    refine wpAnyH_ready (rs := [5]) (by kernel_rfl) (by simp) ?_
    refine AllReadyH.cons rfl (fun K hK => ?_) AllReadyH.nil
    go_simp
    go_wp2_with (go_at_call 56; refine ((unhide HT) _ _ (((unhide HCl0) _ _).ext (by first | exact Ext.refl _ | exact (Ext.refl _).drew))).mono ?_; rintro e w4 ⟨rfl, E4⟩; have F4 : Ext w3 w4 := (by first | exact E4 | exact (Ext.refl _).drew.trans E4); have d0 := F4.kept (unhide HB0); clear E4)
    refine hK.out _ _ ⟨cells_of d0 0 _ rfl, cells_of d0 1 _ rfl, cells_of d0 2 _ rfl, cells_of d0 3 _ rfl⟩ (fun hHeld => ?_)
    clear hK K
    refine wpAnyH_ready (rs := [6]) (by kernel_rfl) (by simp) ?_
    refine AllReadyH.cons rfl (fun K hK => ?_) AllReadyH.nil
    go_simp
    go_wp2_with (go_at_call 112; refine ((unhide HS) _ _ _ ((unhide HE0).trans F4)).mono ?_; rintro e w5 ⟨v5, rfl, hO, E5⟩; obtain ⟨ua, uc, rfl⟩ : ∃ ua uc, v5 = .slice ua (undoN un (a, b)).length uc := (by obtain ⟨x, y, e, _⟩ := hO.reads; exact ⟨x, y, e⟩); have HO5 := hide hO; have HB05 := hide (E5.kept (F4.kept (unhide HB0))); have HB15 := hide (E5.kept (F4.kept (unhide HB1))); have HE5 := hide (((unhide HE0).trans F4).trans E5); have s5 := ((unhide HE0).trans F4).size; have s6 := F4.size; clear hO E5)
    refine hK.out _ _ ⟨cells_of (unhide HB05) 0 _ rfl, cells_of (unhide HB05) 1 _ rfl, cells_of (unhide HB05) 2 _ rfl, cells_of (unhide HB05) 3 _ rfl⟩ (fun hHeld => ?_)
    clear hK K
    refine wpAnyH_ready (rs := [7]) (by kernel_rfl) (by simp) ?_
    refine AllReadyH.cons rfl (fun K hK => ?_) AllReadyH.nil
    refine wp_store_blk 46 _ _ rfl rfl (w.heap.size + 1) rfl _ _ #[.string a, .string TB, .string c, .slice ua (undoN un (a, b)).length uc] rfl (unhide HB15) infoL rfl (by simp [Value.oneCell']) ?_
    intro Z hy hf9
    have hb9 := hf9.kept (unhide HB05) (by omega)
    refine hK.out _ _ ⟨cells_of hb9 0 _ rfl, cells_of hb9 1 _ rfl, cells_of hb9 2 _ rfl, cells_of hb9 3 _ rfl⟩ (fun hHeld => ?_)
    have HY := hide hy
    have FY := hide hf9
    clear hK K hy hf9 hb9
    refine wpAnyH_take (i := 8) (v := ?_) rfl (by kernel_rfl) (by kernel_rfl) (by kernel_rfl) (fun _ _ _ h => h) (Or.inl ⟨by rfl, ?_⟩) (by assumption) ?_
    rotate_left
    · intro w' hSw; go_simp <;> with_reducible rfl
    simp only [Act.put, qA, qB, qC, qD, qE, qF]
    refine wpAnyH_done (by kernel_rfl) ?_ _
    go_wp2
    have v0 : Z.cell? ⟨w.heap.size + 1, 0, none⟩ = some (.string a) := cells_of (unhide HY) 0 _ rfl
    have v1 : Z.cell? ⟨w.heap.size + 1, 1, none⟩ = some (.string TB) := cells_of (unhide HY) 1 _ rfl
    have v2 : Z.cell? ⟨w.heap.size + 1, 2, none⟩ = some (.string c) := cells_of (unhide HY) 2 _ rfl
    have v3 : Z.cell? ⟨w.heap.size + 1, 3, none⟩ = some (.slice ua (undoN un (a, b)).length uc) := cells_of (unhide HY) 3 _ rfl
    exact bodyPost_ret (v := .tuple #[.agg #[.string a, .string TB, .string c, .slice ua (undoN un (a, b)).length uc], .int .i64 1]) (by simp [results, Tryd.results126, go_sem, v0, v1, v2, v3]) rfl (by rw [unhide HXO]; exact ⟨⟨_, rfl, ((unhide HO5).fr (unhide FY) (fun g hg e9 => by have := ((unhide HO5).lt g hg).1; omega)).mono (by omega)⟩, (unhide FY).ext (unhide HE5) (fun q hq => by omega)⟩)
  · go_wp2_with fail
    refine wp_region_held_drew (S := fun W => W.cell? ⟨w.heap.size, 0, none⟩ = some (.string a) ∧ W.cell? ⟨w.heap.size, 1, none⟩ = some (.string b) ∧ W.cell? ⟨w.heap.size, 2, none⟩ = some (.string c) ∧ W.cell? ⟨w.heap.size, 3, none⟩ = some (.slice ao un.length ca)) (by kernel_rfl) q0 (fun hHeld => ?_)
    refine wpAnyH_take (i := 0) (v := ?_) rfl (by kernel_rfl) (by kernel_rfl) (by kernel_rfl) (fun _ _ _ h => h) (Or.inl ⟨by rfl, ?_⟩) (by assumption) ?_
    rotate_left
    · intro w' hSw; go_simp <;> with_reducible rfl
    simp only [Act.put, qA, qB, qC, qD, qE, qF]
    refine wpAnyH_take (i := 1) (v := ?_) rfl (by kernel_rfl) (by kernel_rfl) (by kernel_rfl) (fun _ _ _ h => h) (Or.inl ⟨by rfl, ?_⟩) (by assumption) ?_
    rotate_left
    · intro w' hSw; go_simp <;> with_reducible rfl
    simp only [Act.put, qA, qB, qC, qD, qE, qF]
    refine wpAnyH_take (i := 2) (v := ?_) rfl (by kernel_rfl) (by kernel_rfl) (by kernel_rfl) (fun _ _ _ h => h) (Or.inl ⟨by rfl, ?_⟩) (by assumption) ?_
    rotate_left
    · intro w' hSw; go_simp <;> with_reducible rfl
    simp only [Act.put, qA, qB, qC, qD, qE, qF]
    refine wpAnyH_take (i := 3) (v := ?_) rfl (by kernel_rfl) (by kernel_rfl) (by kernel_rfl) (fun _ _ _ h => h) (Or.inl ⟨by rfl, ?_⟩) (by assumption) ?_
    rotate_left
    · intro w' hSw; go_simp <;> with_reducible rfl
    simp only [Act.put, qA, qB, qC, qD, qE, qF]
    refine wpAnyH_take (i := 4) (v := ?_) rfl (by kernel_rfl) (by kernel_rfl) (by kernel_rfl) (fun _ _ _ h => h) (Or.inl ⟨by rfl, ?_⟩) (by assumption) ?_
    rotate_left
    · intro w' hSw; go_simp <;> with_reducible rfl
    simp only [Act.put, qA, qB, qC, qD, qE, qF]
    refine wpAnyH_ready (rs := [5]) (by kernel_rfl) (by simp) ?_
    refine AllReadyH.cons rfl (fun K hK => ?_) AllReadyH.nil
    go_simp
    go_wp2_with (go_at_call 56; refine ((unhide HT) _ _ (((unhide HCl) _ _ (.inl rfl) (by omega)).ext (by first | exact Ext.refl _ | exact (Ext.refl _).drew))).mono ?_; rintro e w4 ⟨rfl, E4⟩; have F4 : Ext w3 w4 := (by first | exact E4 | exact (Ext.refl _).drew.trans E4); have d0 := F4.kept (unhide HB0); clear E4)
    refine hK.out _ _ ⟨cells_of d0 0 _ rfl, cells_of d0 1 _ rfl, cells_of d0 2 _ rfl, cells_of d0 3 _ rfl⟩ (fun hHeld => ?_)
    clear hK K
    refine wpAnyH_ready (rs := [6]) (by kernel_rfl) (by simp) ?_
    refine AllReadyH.cons rfl (fun K hK => ?_) AllReadyH.nil
    go_simp
    go_wp2_with (go_at_call 112; refine ((unhide HS) _ _ _ ((unhide HE0).trans F4)).mono ?_; rintro e w5 ⟨v5, rfl, hO, E5⟩; obtain ⟨ua, uc, rfl⟩ : ∃ ua uc, v5 = .slice ua (undoN un (a, b)).length uc := (by obtain ⟨x, y, e, _⟩ := hO.reads; exact ⟨x, y, e⟩); have HO5 := hide hO; have HB05 := hide (E5.kept (F4.kept (unhide HB0))); have HB15 := hide (E5.kept (F4.kept (unhide HB1))); have HE5 := hide (((unhide HE0).trans F4).trans E5); have s5 := ((unhide HE0).trans F4).size; have s6 := F4.size; clear hO E5)
    refine hK.out _ _ ⟨cells_of (unhide HB05) 0 _ rfl, cells_of (unhide HB05) 1 _ rfl, cells_of (unhide HB05) 2 _ rfl, cells_of (unhide HB05) 3 _ rfl⟩ (fun hHeld => ?_)
    clear hK K
    refine wpAnyH_ready (rs := [7]) (by kernel_rfl) (by simp) ?_
    refine AllReadyH.cons rfl (fun K hK => ?_) AllReadyH.nil
    refine wp_store_blk 46 _ _ rfl rfl (w.heap.size + 1) rfl _ _ #[.string a, .string TB, .string c, .slice ua (undoN un (a, b)).length uc] rfl (unhide HB15) infoL rfl (by simp [Value.oneCell']) ?_
    intro Z hy hf9
    have hb9 := hf9.kept (unhide HB05) (by omega)
    refine hK.out _ _ ⟨cells_of hb9 0 _ rfl, cells_of hb9 1 _ rfl, cells_of hb9 2 _ rfl, cells_of hb9 3 _ rfl⟩ (fun hHeld => ?_)
    have HY := hide hy
    have FY := hide hf9
    clear hK K hy hf9 hb9
    refine wpAnyH_take (i := 8) (v := ?_) rfl (by kernel_rfl) (by kernel_rfl) (by kernel_rfl) (fun _ _ _ h => h) (Or.inl ⟨by rfl, ?_⟩) (by assumption) ?_
    rotate_left
    · intro w' hSw; go_simp <;> with_reducible rfl
    simp only [Act.put, qA, qB, qC, qD, qE, qF]
    refine wpAnyH_done (by kernel_rfl) ?_ _
    go_wp2
    have v0 : Z.cell? ⟨w.heap.size + 1, 0, none⟩ = some (.string a) := cells_of (unhide HY) 0 _ rfl
    have v1 : Z.cell? ⟨w.heap.size + 1, 1, none⟩ = some (.string TB) := cells_of (unhide HY) 1 _ rfl
    have v2 : Z.cell? ⟨w.heap.size + 1, 2, none⟩ = some (.string c) := cells_of (unhide HY) 2 _ rfl
    have v3 : Z.cell? ⟨w.heap.size + 1, 3, none⟩ = some (.slice ua (undoN un (a, b)).length uc) := cells_of (unhide HY) 3 _ rfl
    exact bodyPost_ret (v := .tuple #[.agg #[.string a, .string TB, .string c, .slice ua (undoN un (a, b)).length uc], .int .i64 1]) (by simp [results, Tryd.results126, go_sem, v0, v1, v2, v3]) rfl (by rw [unhide HXO]; exact ⟨⟨_, rfl, ((unhide HO5).fr (unhide FY) (fun g hg e9 => by have := ((unhide HO5).lt g hg).1; omega)).mono (by omega)⟩, (unhide FY).ext (unhide HE5) (fun q hq => by omega)⟩)
end Go.Proofs.YtbieoijeilhadaaDoor

namespace Go.Proofs.YtbieoijeilhadaaDoor
open Go.RowKit
set_option linter.unusedSimpArgs false in
set_option maxRecDepth 10000 in
set_option maxHeartbeats 8000000 in
theorem l4Swapped_z (a b c : ByteArray) (v : Value) (un : List (ByteArray × ByteArray)) (w : World) (hv : LnAt w v un) (hn : un.length ≤ 50) (za : a.size ≤ 1048576) (zb : b.size ≤ 1048576) (hN : (cutC (baL a)).length = 0 ∧ 0 ≤ (cutC (baL b)).length) :
    Calls Tryd.prog 130 #[.agg #[.string a, .string b, .string c, v]] w fun e w' => LnO w' w.heap.size ⟨a, b, c, un, 2⟩ e ∧ Ext w w' := by
  have infoL : (Tryd.prog.info? 46).map (·.size) = some 4 := by kernel_rfl
  have hcA := hide (fun W => l4Cut_any (baL a) (baL_bytes a) W (by rw [baL_len]; omega))
  have hcB := hide (fun W => l4Cut_any (baL b) (baL_bytes b) W (by rw [baL_len]; omega))
  rw [toBA_baL] at hcA hcB
  have HCA := hide (cuts_one (baL a))
  have HCB := hide (cuts_one (baL b))
  rw [baL_len] at HCA HCB
  have lA := cutC_len (baL a)
  have lB := cutC_len (baL b)
  rw [baL_len] at lA lB
  obtain ⟨ao, ca, rfl, _, _⟩ := id hv
  have HC := hide (fun W (E : Ext w W) => l4Copy_any a b c (.slice ao un.length ca) un.length (lnT un) (lnH un) W (Row2At.ext hv E) (by omega))
  have HS := hide (fun l r W (E : Ext w W) => l4Set_any a b c l r (.slice ao un.length ca) un.length (lnT un) (lnH un) W (Row2At.ext hv E) hn)
  rw [unL_ln] at HS
  clear hv
  obtain ⟨A, hA⟩ : ∃ A, A = cutC (baL a) := ⟨_, rfl⟩
  obtain ⟨B, hB⟩ : ∃ B, B = cutC (baL b) := ⟨_, rfl⟩
  rw [← hA, ← hB] at hN
  rw [← hA] at hcA lA HCA
  rw [← hB] at hcB lB HCB
  obtain ⟨nA, hnA⟩ : ∃ n, A.length = n := ⟨_, rfl⟩
  obtain ⟨nB, hnB⟩ : ∃ n, B.length = n := ⟨_, rfl⟩
  rw [hnA] at lA
  rw [hnB] at lB
  rw [hnA, hnB] at hN
  obtain ⟨h1, -⟩ := hN
  subst h1
  have HNA := hide hnA
  have HNB := hide hnB
  have HXA := hide hA
  have HXB := hide hB
  clear hA hB hnA hnB
  obtain ⟨V, hV⟩ : ∃ V, V = (w.alloc (.cells #[.string a, .string b, .string c, .slice ao un.length ca] 46)).alloc (.cells #[.string { data := #[] }, .string { data := #[] }, .string { data := #[] }, .slice none 0 0] 46) := ⟨_, rfl⟩
  have E0 : Ext w V := by rw [hV]; exact ((Ext.refl w).alloc _).alloc _
  have HB0 : Hid (V.heap[w.heap.size]? = some (.cells #[.string a, .string b, .string c, .slice ao un.length ca] 46 (0, 0))) := hide (by rw [hV]; exact ((Ext.refl _).alloc _).kept (new_block w _))
  have HB1 : Hid (V.heap[w.heap.size + 1]? = some (.cells #[.string { data := #[] }, .string { data := #[] }, .string { data := #[] }, .slice none 0 0] 46 (0, 0))) := hide (by rw [hV]; have h := new_block (w.alloc (.cells #[.string a, .string b, .string c, .slice ao un.length ca] 46)) (.cells #[.string { data := #[] }, .string { data := #[] }, .string { data := #[] }, .slice none 0 0] 46); rw [show (w.alloc (.cells #[.string a, .string b, .string c, .slice ao un.length ca] 46)).heap.size = w.heap.size + 1 by simp] at h; exact h)
  have sz0 : w.heap.size + 1 < V.heap.size := lt_of_block (unhide HB1)
  have HW := hide hV
  have HE0 := hide E0
  clear hV E0
  go_enter Tryd.func130, Tryd.ntmps130
  go_wp2_with fail
  rw [← unhide HW]
  clear HW
  refine ((unhide hcA) _).mono ?_
  rintro e w2 ⟨v2, rs2, rfl, o2, E2⟩
  obtain ⟨a2, c2, rfl⟩ : ∃ a c, v2 = .slice a A.length c := by
    obtain ⟨_, ao, cc, e, _⟩ := o2.cls
    exact ⟨ao, cc, e⟩
  have H2 := hide o2
  rw [unhide HNA] at H2 ⊢
  replace HB0 := hide (E2.kept (unhide HB0))
  replace HB1 := hide (E2.kept (unhide HB1))
  replace HE0 := hide ((unhide HE0).trans E2)
  have q1 : w2.cell? ⟨w.heap.size, 1, none⟩ = some (.string b) := cells_of (unhide HB0) 1 _ rfl
  have z2 := E2.size
  clear o2 E2 hcA
  go_wp2_with fail
  refine ((unhide hcB) _).mono ?_
  rintro e w3 ⟨v3, rs3, rfl, o3, E3⟩
  obtain ⟨a3, c3, rfl⟩ : ∃ a c, v3 = .slice a B.length c := by
    obtain ⟨_, ao, cc, e, _⟩ := o3.cls
    exact ⟨ao, cc, e⟩
  have H3 := hide o3
  rw [unhide HNB] at H3 ⊢
  replace H2 := hide ((unhide H2).ext E3)
  replace HB0 := hide (E3.kept (unhide HB0))
  replace HB1 := hide (E3.kept (unhide HB1))
  replace HE0 := hide ((unhide HE0).trans E3)
  have z3 := E3.size
  clear o3 E3 hcB q1
  have HCc := hide ((unhide HC) w3 (unhide HE0))
  clear HC HS H2 H3 HXA HXB HNA HNB HCA HCB
  go_wp2_with (first
    | (refine wpList_load_blk rfl 46 _ rfl (w.heap.size) rfl _ _ _ _ (unhide HB0) Tryd.underlying46 rfl infoL ?_))
  refine (unhide HCc).mono ?_
  rintro e w5 ⟨ua, uc, rfl, HO, E5⟩
  replace HB1 := hide (E5.kept (unhide HB1))
  replace HE0 := hide ((unhide HE0).trans E5)
  clear E5 HB0 HCc
  go_wp2_with (first
    | (refine wpList_store_blk rfl 46 _ _ rfl rfl (w.heap.size + 1) rfl _ _ _ rfl (unhide HB1) infoL rfl (by simp [Value.oneCell']) ?_; intro Z hy hf9; have HY := hide hy; have FY := hide hf9; clear hy hf9))
  have v0 : Z.cell? ⟨w.heap.size + 1, 0, none⟩ = some (.string a) := cells_of (unhide HY) 0 _ rfl
  have v1 : Z.cell? ⟨w.heap.size + 1, 1, none⟩ = some (.string b) := cells_of (unhide HY) 1 _ rfl
  have v2 : Z.cell? ⟨w.heap.size + 1, 2, none⟩ = some (.string c) := cells_of (unhide HY) 2 _ rfl
  have v3 : Z.cell? ⟨w.heap.size + 1, 3, none⟩ = some (.slice ua un.length uc) := cells_of (unhide HY) 3 _ rfl
  exact bodyPost_ret (v := .tuple #[.agg #[.string a, .string b, .string c, .slice ua un.length uc], .int .i64 2]) (by simp [results, Tryd.results130, go_sem, v0, v1, v2, v3]) rfl (⟨⟨_, rfl, ((unhide HO).fr (unhide FY) (fun g hg e9 => by have := ((unhide HO).lt g hg).1; omega)).mono (by omega)⟩, (unhide FY).ext (unhide HE0) (fun q hq => by omega)⟩)
set_option linter.unusedSimpArgs false in
set_option maxRecDepth 10000 in
set_option maxHeartbeats 8000000 in
theorem l4Swapped_o (a b c : ByteArray) (v : Value) (un : List (ByteArray × ByteArray)) (w : World) (hv : LnAt w v un) (hn : un.length ≤ 50) (za : a.size ≤ 1048576) (zb : b.size ≤ 1048576) (hN : (cutC (baL a)).length = 1 ∧ (cutC (baL b)).length = 0) :
    Calls Tryd.prog 130 #[.agg #[.string a, .string b, .string c, v]] w fun e w' => LnO w' w.heap.size ⟨a, b, c, un, 2⟩ e ∧ Ext w w' := by
  have infoL : (Tryd.prog.info? 46).map (·.size) = some 4 := by kernel_rfl
  have hcA := hide (fun W => l4Cut_any (baL a) (baL_bytes a) W (by rw [baL_len]; omega))
  have hcB := hide (fun W => l4Cut_any (baL b) (baL_bytes b) W (by rw [baL_len]; omega))
  rw [toBA_baL] at hcA hcB
  have HCA := hide (cuts_one (baL a))
  have HCB := hide (cuts_one (baL b))
  rw [baL_len] at HCA HCB
  have lA := cutC_len (baL a)
  have lB := cutC_len (baL b)
  rw [baL_len] at lA lB
  obtain ⟨ao, ca, rfl, _, _⟩ := id hv
  have HC := hide (fun W (E : Ext w W) => l4Copy_any a b c (.slice ao un.length ca) un.length (lnT un) (lnH un) W (Row2At.ext hv E) (by omega))
  have HS := hide (fun l r W (E : Ext w W) => l4Set_any a b c l r (.slice ao un.length ca) un.length (lnT un) (lnH un) W (Row2At.ext hv E) hn)
  rw [unL_ln] at HS
  clear hv
  obtain ⟨A, hA⟩ : ∃ A, A = cutC (baL a) := ⟨_, rfl⟩
  obtain ⟨B, hB⟩ : ∃ B, B = cutC (baL b) := ⟨_, rfl⟩
  rw [← hA, ← hB] at hN
  rw [← hA] at hcA lA HCA
  rw [← hB] at hcB lB HCB
  obtain ⟨nA, hnA⟩ : ∃ n, A.length = n := ⟨_, rfl⟩
  obtain ⟨nB, hnB⟩ : ∃ n, B.length = n := ⟨_, rfl⟩
  rw [hnA] at lA
  rw [hnB] at lB
  rw [hnA, hnB] at hN
  obtain ⟨h1, h2⟩ := hN
  subst h1
  subst h2
  have HNA := hide hnA
  have HNB := hide hnB
  have HXA := hide hA
  have HXB := hide hB
  clear hA hB hnA hnB
  obtain ⟨V, hV⟩ : ∃ V, V = (w.alloc (.cells #[.string a, .string b, .string c, .slice ao un.length ca] 46)).alloc (.cells #[.string { data := #[] }, .string { data := #[] }, .string { data := #[] }, .slice none 0 0] 46) := ⟨_, rfl⟩
  have E0 : Ext w V := by rw [hV]; exact ((Ext.refl w).alloc _).alloc _
  have HB0 : Hid (V.heap[w.heap.size]? = some (.cells #[.string a, .string b, .string c, .slice ao un.length ca] 46 (0, 0))) := hide (by rw [hV]; exact ((Ext.refl _).alloc _).kept (new_block w _))
  have HB1 : Hid (V.heap[w.heap.size + 1]? = some (.cells #[.string { data := #[] }, .string { data := #[] }, .string { data := #[] }, .slice none 0 0] 46 (0, 0))) := hide (by rw [hV]; have h := new_block (w.alloc (.cells #[.string a, .string b, .string c, .slice ao un.length ca] 46)) (.cells #[.string { data := #[] }, .string { data := #[] }, .string { data := #[] }, .slice none 0 0] 46); rw [show (w.alloc (.cells #[.string a, .string b, .string c, .slice ao un.length ca] 46)).heap.size = w.heap.size + 1 by simp] at h; exact h)
  have sz0 : w.heap.size + 1 < V.heap.size := lt_of_block (unhide HB1)
  have HW := hide hV
  have HE0 := hide E0
  clear hV E0
  go_enter Tryd.func130, Tryd.ntmps130
  go_wp2_with fail
  rw [← unhide HW]
  clear HW
  refine ((unhide hcA) _).mono ?_
  rintro e w2 ⟨v2, rs2, rfl, o2, E2⟩
  obtain ⟨a2, c2, rfl⟩ : ∃ a c, v2 = .slice a A.length c := by
    obtain ⟨_, ao, cc, e, _⟩ := o2.cls
    exact ⟨ao, cc, e⟩
  have H2 := hide o2
  rw [unhide HNA] at H2 ⊢
  replace HB0 := hide (E2.kept (unhide HB0))
  replace HB1 := hide (E2.kept (unhide HB1))
  replace HE0 := hide ((unhide HE0).trans E2)
  have q1 : w2.cell? ⟨w.heap.size, 1, none⟩ = some (.string b) := cells_of (unhide HB0) 1 _ rfl
  have z2 := E2.size
  clear o2 E2 hcA
  go_wp2_with fail
  refine ((unhide hcB) _).mono ?_
  rintro e w3 ⟨v3, rs3, rfl, o3, E3⟩
  obtain ⟨a3, c3, rfl⟩ : ∃ a c, v3 = .slice a B.length c := by
    obtain ⟨_, ao, cc, e, _⟩ := o3.cls
    exact ⟨ao, cc, e⟩
  have H3 := hide o3
  rw [unhide HNB] at H3 ⊢
  replace H2 := hide ((unhide H2).ext E3)
  replace HB0 := hide (E3.kept (unhide HB0))
  replace HB1 := hide (E3.kept (unhide HB1))
  replace HE0 := hide ((unhide HE0).trans E3)
  have z3 := E3.size
  clear o3 E3 hcB q1
  have HCc := hide ((unhide HC) w3 (unhide HE0))
  clear HC HS H2 H3 HXA HXB HNA HNB HCA HCB
  go_wp2_with (first
    | (refine wpList_load_blk rfl 46 _ rfl (w.heap.size) rfl _ _ _ _ (unhide HB0) Tryd.underlying46 rfl infoL ?_))
  refine (unhide HCc).mono ?_
  rintro e w5 ⟨ua, uc, rfl, HO, E5⟩
  replace HB1 := hide (E5.kept (unhide HB1))
  replace HE0 := hide ((unhide HE0).trans E5)
  clear E5 HB0 HCc
  go_wp2_with (first
    | (refine wpList_store_blk rfl 46 _ _ rfl rfl (w.heap.size + 1) rfl _ _ _ rfl (unhide HB1) infoL rfl (by simp [Value.oneCell']) ?_; intro Z hy hf9; have HY := hide hy; have FY := hide hf9; clear hy hf9))
  have v0 : Z.cell? ⟨w.heap.size + 1, 0, none⟩ = some (.string a) := cells_of (unhide HY) 0 _ rfl
  have v1 : Z.cell? ⟨w.heap.size + 1, 1, none⟩ = some (.string b) := cells_of (unhide HY) 1 _ rfl
  have v2 : Z.cell? ⟨w.heap.size + 1, 2, none⟩ = some (.string c) := cells_of (unhide HY) 2 _ rfl
  have v3 : Z.cell? ⟨w.heap.size + 1, 3, none⟩ = some (.slice ua un.length uc) := cells_of (unhide HY) 3 _ rfl
  exact bodyPost_ret (v := .tuple #[.agg #[.string a, .string b, .string c, .slice ua un.length uc], .int .i64 2]) (by simp [results, Tryd.results130, go_sem, v0, v1, v2, v3]) rfl (⟨⟨_, rfl, ((unhide HO).fr (unhide FY) (fun g hg e9 => by have := ((unhide HO).lt g hg).1; omega)).mono (by omega)⟩, (unhide FY).ext (unhide HE0) (fun q hq => by omega)⟩)
end Go.Proofs.YtbieoijeilhadaaDoor

namespace Go.Proofs.YtbieoijeilhadaaDoor
open Go.RowKit
theorem ad_eq (g p : Nat) : (some (⟨g, p * 2, none⟩ : Addr)) = Option.map (fun x : Addr => x.add (p * 2)) (some (⟨g, 0, none⟩ : Addr)) := by
  by_cases h : p * 2 = 0 <;> simp [Addr.add, h]
set_option linter.unusedSimpArgs false in
set_option maxRecDepth 10000 in
set_option maxHeartbeats 8000000 in
theorem l4Swapped_mid (a b c : ByteArray) (v : Value) (un : List (ByteArray × ByteArray)) (w : World) (hv : LnAt w v un) (hn : un.length ≤ 50) (za : a.size ≤ 1048576) (zb : b.size ≤ 1048576) (hN : 1 ≤ (cutC (baL a)).length ∧ 1 ≤ (cutC (baL b)).length) :
    Calls Tryd.prog 130 #[.agg #[.string a, .string b, .string c, v]] w fun e w' => LnO w' w.heap.size (edSet a b c un (toBA (textC ((cutC (baL a)).take ((cutC (baL a)).length - 1)) ++ textC ((cutC (baL b)).take 1) ++ textC ((cutC (baL a)).drop ((cutC (baL a)).length - 1)))) (toBA (textC ((cutC (baL b)).drop 1)))) e ∧ Ext w w' := by
  have infoL : (Tryd.prog.info? 46).map (·.size) = some 4 := by kernel_rfl
  have hcA := hide (fun W => l4Cut_any (baL a) (baL_bytes a) W (by rw [baL_len]; omega))
  have hcB := hide (fun W => l4Cut_any (baL b) (baL_bytes b) W (by rw [baL_len]; omega))
  rw [toBA_baL] at hcA hcB
  have HCA := hide (cuts_one (baL a))
  have HCB := hide (cuts_one (baL b))
  rw [baL_len] at HCA HCB
  have lA := cutC_len (baL a)
  have lB := cutC_len (baL b)
  rw [baL_len] at lA lB
  obtain ⟨ao, ca, rfl, _, _⟩ := id hv
  have HC := hide (fun W (E : Ext w W) => l4Copy_any a b c (.slice ao un.length ca) un.length (lnT un) (lnH un) W (Row2At.ext hv E) (by omega))
  have HS := hide (fun l r W (E : Ext w W) => l4Set_any a b c l r (.slice ao un.length ca) un.length (lnT un) (lnH un) W (Row2At.ext hv E) hn)
  rw [unL_ln] at HS
  clear hv
  obtain ⟨A, hA⟩ : ∃ A, A = cutC (baL a) := ⟨_, rfl⟩
  obtain ⟨B, hB⟩ : ∃ B, B = cutC (baL b) := ⟨_, rfl⟩
  rw [← hA, ← hB] at hN
  rw [← hA] at hcA lA HCA
  rw [← hB] at hcB lB HCB
  obtain ⟨nA, hnA⟩ : ∃ n, A.length = n := ⟨_, rfl⟩
  obtain ⟨nB, hnB⟩ : ∃ n, B.length = n := ⟨_, rfl⟩
  rw [hnA] at lA
  rw [hnB] at lB
  rw [hnA, hnB] at hN
  obtain ⟨h1, h2⟩ := hN
  have HNA := hide hnA
  have HNB := hide hnB
  have HXA := hide hA
  have HXB := hide hB
  clear hA hB hnA hnB
  obtain ⟨V, hV⟩ : ∃ V, V = (w.alloc (.cells #[.string a, .string b, .string c, .slice ao un.length ca] 46)).alloc (.cells #[.string { data := #[] }, .string { data := #[] }, .string { data := #[] }, .slice none 0 0] 46) := ⟨_, rfl⟩
  have E0 : Ext w V := by rw [hV]; exact ((Ext.refl w).alloc _).alloc _
  have HB0 : Hid (V.heap[w.heap.size]? = some (.cells #[.string a, .string b, .string c, .slice ao un.length ca] 46 (0, 0))) := hide (by rw [hV]; exact ((Ext.refl _).alloc _).kept (new_block w _))
  have HB1 : Hid (V.heap[w.heap.size + 1]? = some (.cells #[.string { data := #[] }, .string { data := #[] }, .string { data := #[] }, .slice none 0 0] 46 (0, 0))) := hide (by rw [hV]; have h := new_block (w.alloc (.cells #[.string a, .string b, .string c, .slice ao un.length ca] 46)) (.cells #[.string { data := #[] }, .string { data := #[] }, .string { data := #[] }, .slice none 0 0] 46); rw [show (w.alloc (.cells #[.string a, .string b, .string c, .slice ao un.length ca] 46)).heap.size = w.heap.size + 1 by simp] at h; exact h)
  have sz0 : w.heap.size + 1 < V.heap.size := lt_of_block (unhide HB1)
  have HW := hide hV
  have HE0 := hide E0
  clear hV E0
  go_enter Tryd.func130, Tryd.ntmps130
  go_wp2_with fail
  rw [← unhide HW]
  clear HW
  refine ((unhide hcA) _).mono ?_
  rintro e w2 ⟨v2, rs2, rfl, o2, E2⟩
  obtain ⟨a2, c2, rfl⟩ : ∃ a c, v2 = .slice a A.length c := by
    obtain ⟨_, ao, cc, e, _⟩ := o2.cls
    exact ⟨ao, cc, e⟩
  have H2 := hide o2
  rw [unhide HNA] at H2 ⊢
  replace HB0 := hide (E2.kept (unhide HB0))
  replace HB1 := hide (E2.kept (unhide HB1))
  replace HE0 := hide ((unhide HE0).trans E2)
  have q1 : w2.cell? ⟨w.heap.size, 1, none⟩ = some (.string b) := cells_of (unhide HB0) 1 _ rfl
  have z2 := E2.size
  clear o2 E2 hcA
  go_wp2_with fail
  refine ((unhide hcB) _).mono ?_
  rintro e w3 ⟨v3, rs3, rfl, o3, E3⟩
  obtain ⟨a3, c3, rfl⟩ : ∃ a c, v3 = .slice a B.length c := by
    obtain ⟨_, ao, cc, e, _⟩ := o3.cls
    exact ⟨ao, cc, e⟩
  have H3 := hide o3
  rw [unhide HNB] at H3 ⊢
  replace H2 := hide ((unhide H2).ext E3)
  replace HB0 := hide (E3.kept (unhide HB0))
  replace HB1 := hide (E3.kept (unhide HB1))
  replace HE0 := hide ((unhide HE0).trans E3)
  have z3 := E3.size
  clear o3 E3 hcB q1
  have hc2 : nA ≤ c2 := by
    obtain ⟨_, _, _, e9, h9, _⟩ := (unhide H2).cls
    obtain ⟨_, _, rfl⟩ := Value.slice.inj e9
    rw [unhide HNA] at h9
    exact h9
  have hc3 : nB ≤ c3 := by
    obtain ⟨_, _, _, e9, h9, _⟩ := (unhide H3).cls
    obtain ⟨_, _, rfl⟩ := Value.slice.inj e9
    rw [unhide HNB] at h9
    exact h9
  obtain ⟨p, hp⟩ : ∃ p, nA - 1 = p := ⟨_, rfl⟩
  have hw : IntKind.i64.wrap ((nA : Int) - 1) = (p : Int) := by rw [IntKind.wrap_i64]; omega
  have g1 : (1 : Int) ≤ (nA : Int) := by omega
  have g2 : (1 : Int) ≤ (nB : Int) := by omega
  have g3 : (p : Int) ≤ (c2 : Int) := by omega
  have g4 : (0 : Int) ≤ (p : Int) := by omega
  have g5 : (p : Int) ≤ (nA : Int) := by omega
  have g6 : (nA : Int) ≤ (c2 : Int) := by omega
  have g7 : (1 : Int) ≤ (c3 : Int) := by omega
  have g8 : (nB : Int) ≤ (c3 : Int) := by omega
  have g9 : ¬ c2 = p := by omega
  have g10 : ¬ c3 = 0 := by omega
  obtain ⟨ga, hga⟩ : ∃ g, a2 = some ⟨g, 0, none⟩ := by
    obtain ⟨_, ⟨ys, hy, _⟩, _⟩ := unhide H2
    rcases hy.2 with ⟨_, e0⟩ | ⟨g, cc, cur, e0, _⟩
    · rw [unhide HNA] at e0; omega
    · exact ⟨g, (Value.slice.inj e0).1⟩
  subst hga
  obtain ⟨gb, hgb⟩ : ∃ g, a3 = some ⟨g, 0, none⟩ := by
    obtain ⟨_, ⟨ys, hy, _⟩, _⟩ := unhide H3
    rcases hy.2 with ⟨_, e0⟩ | ⟨g, cc, cur, e0, _⟩
    · rw [unhide HNB] at e0; omega
    · exact ⟨g, (Value.slice.inj e0).1⟩
  subst hgb
  have HX1 := hide (fun v W (hv : ClsAt W v ((A.take p).drop 0)) => specTextOf_any v _ W hv (by have := ((unhide HCA).part 0 p).1; omega) (fun j _ => ((unhide HCA).part 0 p).2 j))
  obtain ⟨X1, hX1⟩ : ∃ x, x = toBA (textC ((A.take p).drop 0)) := ⟨_, rfl⟩
  rw [← hX1] at HX1
  have zX1 : X1.size ≤ 100000000 := by
    rw [hX1, toBA_size]
    have h8 := ((unhide HCA).part 0 p).1
    have h9 := txT_len ((A.take p).drop 0) ((A.take p).drop 0).length
    unfold textC
    omega
  have HX2 := hide (fun v W (hv : ClsAt W v ((B.take 1).drop 0)) => specTextOf_any v _ W hv (by have := ((unhide HCB).part 0 1).1; omega) (fun j _ => ((unhide HCB).part 0 1).2 j))
  obtain ⟨X2, hX2⟩ : ∃ x, x = toBA (textC ((B.take 1).drop 0)) := ⟨_, rfl⟩
  rw [← hX2] at HX2
  have zX2 : X2.size ≤ 100000000 := by
    rw [hX2, toBA_size]
    have h8 := ((unhide HCB).part 0 1).1
    have h9 := txT_len ((B.take 1).drop 0) ((B.take 1).drop 0).length
    unfold textC
    omega
  have HX3 := hide (fun v W (hv : ClsAt W v ((A.take nA).drop p)) => specTextOf_any v _ W hv (by have := ((unhide HCA).part p nA).1; omega) (fun j _ => ((unhide HCA).part p nA).2 j))
  obtain ⟨X3, hX3⟩ : ∃ x, x = toBA (textC ((A.take nA).drop p)) := ⟨_, rfl⟩
  rw [← hX3] at HX3
  have zX3 : X3.size ≤ 100000000 := by
    rw [hX3, toBA_size]
    have h8 := ((unhide HCA).part p nA).1
    have h9 := txT_len ((A.take nA).drop p) ((A.take nA).drop p).length
    unfold textC
    omega
  have HX4 := hide (fun v W (hv : ClsAt W v ((B.take nB).drop 1)) => specTextOf_any v _ W hv (by have := ((unhide HCB).part 1 nB).1; omega) (fun j _ => ((unhide HCB).part 1 nB).2 j))
  obtain ⟨X4, hX4⟩ : ∃ x, x = toBA (textC ((B.take nB).drop 1)) := ⟨_, rfl⟩
  rw [← hX4] at HX4
  have zX4 : X4.size ≤ 100000000 := by
    rw [hX4, toBA_size]
    have h8 := ((unhide HCB).part 1 nB).1
    have h9 := txT_len ((B.take nB).drop 1) ((B.take nB).drop 1).length
    unfold textC
    omega
  have CX1 : Hid (ClsAt w3 (.slice (some ⟨ga, 0, none⟩) (p - 0) c2) ((A.take p).drop 0)) := hide (by
    have hcl := (unhide H2).cls
    rw [← unhide HNA] at hcl
    exact hcl.cut 0 p c2 (by omega) (by rw [unhide HNA]; omega) (by omega) (some ⟨ga, 0, none⟩) (.inl rfl))
  have CX2 : Hid (ClsAt w3 (.slice (some ⟨gb, 0, none⟩) (1 - 0) c3) ((B.take 1).drop 0)) := hide (by
    have hcl := (unhide H3).cls
    rw [← unhide HNB] at hcl
    exact hcl.cut 0 1 c3 (by omega) (by rw [unhide HNB]; omega) (by omega) (some ⟨gb, 0, none⟩) (.inl rfl))
  have CX3 : Hid (ClsAt w3 (.slice (some ⟨ga, p * 2, none⟩) (nA - p) (c2 - p)) ((A.take nA).drop p)) := hide (by
    have hcl := (unhide H2).cls
    rw [← unhide HNA] at hcl
    exact hcl.cut p nA (c2 - p) (by omega) (by rw [unhide HNA]; omega) (by omega) (some ⟨ga, p * 2, none⟩) (.inl (ad_eq _ _)))
  have HXO : Hid (edSet a b c un (toBA (textC ((cutC (baL a)).take ((cutC (baL a)).length - 1)) ++ textC ((cutC (baL b)).take 1) ++ textC ((cutC (baL a)).drop ((cutC (baL a)).length - 1)))) (toBA (textC ((cutC (baL b)).drop 1))) = ⟨X1 ++ X2 ++ X3, X4, c, undoN un (a, b), 1⟩) := hide (by
    rw [hX1, hX2, hX3, hX4, toBA_app, toBA_app, ← unhide HXA, ← unhide HXB, unhide HNA, hp, List.drop_zero, List.drop_zero, ← unhide HNA, List.take_length, ← unhide HNB, List.take_length]
    rfl)
  have s5 : (X1 ++ X2).size = X1.size + X2.size := ByteArray.size_append
  have s6 : ¬ 9223372036854775807 < X1.size + X2.size := by omega
  have s7 : ¬ 9223372036854775807 < X1.size + X2.size + X3.size := by omega
  have s8 : ¬ 9223372036854775807 < (X1 ++ X2).size + X3.size := by omega
  have q0 : w3.cell? ⟨w.heap.size, 0, none⟩ = some (.string a) ∧ w3.cell? ⟨w.heap.size, 1, none⟩ = some (.string b) ∧ w3.cell? ⟨w.heap.size, 2, none⟩ = some (.string c) ∧ w3.cell? ⟨w.heap.size, 3, none⟩ = some (.slice ao un.length ca) := ⟨cells_of (unhide HB0) 0 _ rfl, cells_of (unhide HB0) 1 _ rfl, cells_of (unhide HB0) 2 _ rfl, cells_of (unhide HB0) 3 _ rfl⟩
  clear hX1 hX2 hX3 hX4 hp HC
  by_cases hc1 : c3 = 1
  · have hnB1 : nB = 1 := by omega
    subst hc1
    subst hnB1
    have CX4 : Hid (ClsAt w3 (.slice (some ⟨gb, 0, none⟩) 0 0) ((B.take 1).drop 1)) := hide (by
      have hcl := (unhide H3).cls
      rw [← unhide HNB] at hcl
      have := hcl.cut 1 1 0 (by omega) (by rw [unhide HNB]; omega) (by omega) (some ⟨gb, 0, none⟩) (.inr (by omega))
      exact this)
    clear H2 H3
    go_wp2_with fail
    refine wp_region_held_drew (S := fun W => W.cell? ⟨w.heap.size, 0, none⟩ = some (.string a) ∧ W.cell? ⟨w.heap.size, 1, none⟩ = some (.string b) ∧ W.cell? ⟨w.heap.size, 2, none⟩ = some (.string c) ∧ W.cell? ⟨w.heap.size, 3, none⟩ = some (.slice ao un.length ca)) (by kernel_rfl) q0 (fun hHeld => ?_)
    refine wpAnyH_take (i := 0) (v := ?_) rfl (by kernel_rfl) (by kernel_rfl) (by kernel_rfl) (fun _ _ _ h => h) (Or.inl ⟨by rfl, ?_⟩) (by assumption) ?_
    rotate_left
    · intro w' hSw; go_simp <;> with_reducible rfl
    simp only [Act.put, qA, qB, qC, qD, qE, qF]
    refine wpAnyH_take (i := 1) (v := ?_) rfl (by kernel_rfl) (by kernel_rfl) (by kernel_rfl) (fun _ _ _ h => h) (Or.inl ⟨by rfl, ?_⟩) (by assumption) ?_
    rotate_left
    · intro w' hSw; go_simp <;> with_reducible rfl
    simp only [Act.put, qA, qB, qC, qD, qE, qF]
    refine wpAnyH_take (i := 2) (v := ?_) rfl (by kernel_rfl) (by kernel_rfl) (by kernel_rfl) (fun _ _ _ h => h) (Or.inl ⟨by rfl, ?_⟩) (by assumption) ?_
    rotate_left
    · intro w' hSw; go_simp <;> with_reducible rfl
    simp only [Act.put, qA, qB, qC, qD, qE, qF]
    refine wpAnyH_take (i := 3) (v := ?_) rfl (by kernel_rfl) (by kernel_rfl) (by kernel_rfl) (fun _ _ _ h => h) (Or.inl ⟨by rfl, ?_⟩) (by assumption) ?_
    rotate_left
    · intro w' hSw; go_simp <;> with_reducible rfl
    simp only [Act.put, qA, qB, qC, qD, qE, qF]
    refine wpAnyH_take (i := 4) (v := ?_) rfl (by kernel_rfl) (by kernel_rfl) (by kernel_rfl) (fun _ _ _ h => h) (Or.inl ⟨by rfl, ?_⟩) (by assumption) ?_
    rotate_left
    · intro w' hSw; go_simp <;> with_reducible rfl
    simp only [Act.put, qA, qB, qC, qD, qE, qF]
    refine wpAnyH_take (i := 6) (v := ?_) rfl (by kernel_rfl) (by kernel_rfl) (by kernel_rfl) (fun _ _ _ h => h) (Or.inl ⟨by rfl, ?_⟩) (by assumption) ?_
    rotate_left
    · intro w' hSw; go_simp <;> with_reducible rfl
    simp only [Act.put, qA, qB, qC, qD, qE, qF]
    refine wpAnyH_take (i := 7) (v := ?_) rfl (by kernel_rfl) (by kernel_rfl) (by kernel_rfl) (fun _ _ _ h => h) (Or.inl ⟨by rfl, ?_⟩) (by assumption) ?_
    rotate_left
    · intro w' hSw; go_simp <;> with_reducible rfl
    simp only [Act.put, qA, qB, qC, qD, qE, qF]
    refine wpAnyH_take (i := 10) (v := ?_) rfl (by kernel_rfl) (by kernel_rfl) (by kernel_rfl) (fun _ _ _ h => h) (Or.inl ⟨by rfl, ?_⟩) (by assumption) ?_
    rotate_left
    · intro w' hSw; go_simp <;> with_reducible rfl
    simp only [Act.put, qA, qB, qC, qD, qE, qF]
    refine wpAnyH_take (i := 11) (v := ?_) rfl (by kernel_rfl) (by kernel_rfl) (by kernel_rfl) (fun _ _ _ h => h) (Or.inl ⟨by rfl, ?_⟩) (by assumption) ?_
    rotate_left
    · intro w' hSw; go_simp <;> with_reducible rfl
    simp only [Act.put, qA, qB, qC, qD, qE, qF]
    refine wpAnyH_take (i := 12) (v := ?_) rfl (by kernel_rfl) (by kernel_rfl) (by kernel_rfl) (fun _ _ _ h => h) (Or.inl ⟨by rfl, ?_⟩) (by assumption) ?_
    rotate_left
    · intro w' hSw; go_simp <;> with_reducible rfl
    simp only [Act.put, qA, qB, qC, qD, qE, qF]
    refine wpAnyH_take (i := 13) (v := ?_) rfl (by kernel_rfl) (by kernel_rfl) (by kernel_rfl) (fun _ _ _ h => h) (Or.inl ⟨by rfl, ?_⟩) (by assumption) ?_
    rotate_left
    · intro w' hSw; go_simp <;> with_reducible rfl
    simp only [Act.put, qA, qB, qC, qD, qE, qF]
    refine wpAnyH_take (i := 16) (v := ?_) rfl (by kernel_rfl) (by kernel_rfl) (by kernel_rfl) (fun _ _ _ h => h) (Or.inl ⟨by rfl, ?_⟩) (by assumption) ?_
    rotate_left
    · intro w' hSw; go_simp <;> with_reducible rfl
    simp only [Act.put, qA, qB, qC, qD, qE, qF]
    refine wpAnyH_take (i := 17) (v := ?_) rfl (by kernel_rfl) (by kernel_rfl) (by kernel_rfl) (fun _ _ _ h => h) (Or.inl ⟨by rfl, ?_⟩) (by assumption) ?_
    rotate_left
    · intro w' hSw; go_simp <;> with_reducible rfl
    simp only [Act.put, qA, qB, qC, qD, qE, qF]
    refine wpAnyH_ready (rs := [5]) (by kernel_rfl) (by simp) ?_
    refine AllReadyH.cons rfl (fun K hK => ?_) AllReadyH.nil
    go_simp
    go_wp2_with (go_at_call 56; refine ((unhide HX1) _ _ ((unhide CX1).ext (by first | exact Ext.refl _ | exact (Ext.refl _).drew))).mono ?_; rintro e w4 ⟨rfl, E⟩; have F4 : Ext w3 w4 := (by first | exact E | exact (Ext.refl _).drew.trans E); have dF4 := F4.kept (unhide HB0); clear E)
    refine hK.out _ _ ⟨cells_of dF4 0 _ rfl, cells_of dF4 1 _ rfl, cells_of dF4 2 _ rfl, cells_of dF4 3 _ rfl⟩ (fun hHeld => ?_)
    clear hK K
    refine wpAnyH_ready (rs := [8]) (by kernel_rfl) (by simp) ?_
    refine AllReadyH.cons rfl (fun K hK => ?_) AllReadyH.nil
    go_simp
    go_wp2_with (go_at_call 56; refine ((unhide HX2) _ _ ((unhide CX2).ext (by first | exact F4 | exact F4.drew))).mono ?_; rintro e w6 ⟨rfl, E⟩; have F6 : Ext w3 w6 := (by first | exact F4.trans E | exact F4.drew.trans E); have dF6 := F6.kept (unhide HB0); clear E)
    refine hK.out _ _ ⟨cells_of dF6 0 _ rfl, cells_of dF6 1 _ rfl, cells_of dF6 2 _ rfl, cells_of dF6 3 _ rfl⟩ (fun hHeld => ?_)
    clear hK K
    refine wpAnyH_take (i := 9) (v := ?_) rfl (by kernel_rfl) (by kernel_rfl) (by kernel_rfl) (fun _ _ _ h => h) (Or.inl ⟨by rfl, ?_⟩) (by assumption) ?_
    rotate_left
    · intro w' hSw; go_simp <;> with_reducible rfl
    simp only [Act.put, qA, qB, qC, qD, qE, qF]
    refine wpAnyH_ready (rs := [14]) (by kernel_rfl) (by simp) ?_
    refine AllReadyH.cons rfl (fun K hK => ?_) AllReadyH.nil
    go_simp
    go_wp2_with (go_at_call 56; refine ((unhide HX3) _ _ ((unhide CX3).ext (by first | exact F6 | exact F6.drew))).mono ?_; rintro e w7 ⟨rfl, E⟩; have F7 : Ext w3 w7 := (by first | exact F6.trans E | exact F6.drew.trans E); have dF7 := F7.kept (unhide HB0); clear E)
    refine hK.out _ _ ⟨cells_of dF7 0 _ rfl, cells_of dF7 1 _ rfl, cells_of dF7 2 _ rfl, cells_of dF7 3 _ rfl⟩ (fun hHeld => ?_)
    clear hK K
    refine wpAnyH_take (i := 15) (v := ?_) rfl (by kernel_rfl) (by kernel_rfl) (by kernel_rfl) (fun _ _ _ h => h) (Or.inl ⟨by rfl, ?_⟩) (by assumption) ?_
    rotate_left
    · intro w' hSw; go_simp <;> with_reducible rfl
    simp only [Act.put, qA, qB, qC, qD, qE, qF]
    refine wpAnyH_ready (rs := [18]) (by kernel_rfl) (by simp) ?_
    refine AllReadyH.cons rfl (fun K hK => ?_) AllReadyH.nil
    go_simp
    go_wp2_with (go_at_call 56; refine ((unhide HX4) _ _ ((unhide CX4).ext (by first | exact F7 | exact F7.drew))).mono ?_; rintro e w8 ⟨rfl, E⟩; have F8 : Ext w3 w8 := (by first | exact F7.trans E | exact F7.drew.trans E); have dF8 := F8.kept (unhide HB0); clear E)
    refine hK.out _ _ ⟨cells_of dF8 0 _ rfl, cells_of dF8 1 _ rfl, cells_of dF8 2 _ rfl, cells_of dF8 3 _ rfl⟩ (fun hHeld => ?_)
    clear hK K
    refine wpAnyH_ready (rs := [19]) (by kernel_rfl) (by simp) ?_
    refine AllReadyH.cons rfl (fun K hK => ?_) AllReadyH.nil
    go_simp
    go_wp2_with (go_at_call 112; refine ((unhide HS) _ _ _ ((unhide HE0).trans F8)).mono ?_; rintro e w5 ⟨v5, rfl, hO, E5⟩; obtain ⟨ua, uc, rfl⟩ : ∃ ua uc, v5 = .slice ua (undoN un (a, b)).length uc := (by obtain ⟨x, y, e, _⟩ := hO.reads; exact ⟨x, y, e⟩); have HO5 := hide hO; have HB05 := hide (E5.kept (F8.kept (unhide HB0))); have HB15 := hide (E5.kept (F8.kept (unhide HB1))); have HE5 := hide (((unhide HE0).trans F8).trans E5); have s5 := ((unhide HE0).trans F8).size; have s6 := F8.size; clear hO E5)
    refine hK.out _ _ ⟨cells_of (unhide HB05) 0 _ rfl, cells_of (unhide HB05) 1 _ rfl, cells_of (unhide HB05) 2 _ rfl, cells_of (unhide HB05) 3 _ rfl⟩ (fun hHeld => ?_)
    clear hK K
    refine wpAnyH_ready (rs := [20]) (by kernel_rfl) (by simp) ?_
    refine AllReadyH.cons rfl (fun K hK => ?_) AllReadyH.nil
    refine wp_store_blk 46 _ _ rfl rfl (w.heap.size + 1) rfl _ _ #[.string (X1 ++ X2 ++ X3), .string X4, .string c, .slice ua (undoN un (a, b)).length uc] rfl (unhide HB15) infoL rfl (by simp [Value.oneCell']) ?_
    intro Z hy hf9
    have hb9 := hf9.kept (unhide HB05) (by omega)
    refine hK.out _ _ ⟨cells_of hb9 0 _ rfl, cells_of hb9 1 _ rfl, cells_of hb9 2 _ rfl, cells_of hb9 3 _ rfl⟩ (fun hHeld => ?_)
    have HY := hide hy
    have FY := hide hf9
    clear hK K hy hf9 hb9
    refine wpAnyH_take (i := 21) (v := ?_) rfl (by kernel_rfl) (by kernel_rfl) (by kernel_rfl) (fun _ _ _ h => h) (Or.inl ⟨by rfl, ?_⟩) (by assumption) ?_
    rotate_left
    · intro w' hSw; go_simp <;> with_reducible rfl
    simp only [Act.put, qA, qB, qC, qD, qE, qF]
    refine wpAnyH_done (by kernel_rfl) ?_ _
    go_wp2
    have v0 : Z.cell? ⟨w.heap.size + 1, 0, none⟩ = some (.string (X1 ++ X2 ++ X3)) := cells_of (unhide HY) 0 _ rfl
    have v1 : Z.cell? ⟨w.heap.size + 1, 1, none⟩ = some (.string X4) := cells_of (unhide HY) 1 _ rfl
    have v2 : Z.cell? ⟨w.heap.size + 1, 2, none⟩ = some (.string c) := cells_of (unhide HY) 2 _ rfl
    have v3 : Z.cell? ⟨w.heap.size + 1, 3, none⟩ = some (.slice ua (undoN un (a, b)).length uc) := cells_of (unhide HY) 3 _ rfl
    exact bodyPost_ret (v := .tuple #[.agg #[.string (X1 ++ X2 ++ X3), .string X4, .string c, .slice ua (undoN un (a, b)).length uc], .int .i64 1]) (by simp [results, Tryd.results130, go_sem, v0, v1, v2, v3]) rfl (by rw [unhide HXO]; exact ⟨⟨_, rfl, ((unhide HO5).fr (unhide FY) (fun g hg e9 => by have := ((unhide HO5).lt g hg).1; omega)).mono (by omega)⟩, (unhide FY).ext (unhide HE5) (fun q hq => by omega)⟩)
  · have CX4 : Hid (ClsAt w3 (.slice (some ⟨gb, 2, none⟩) (nB - 1) (c3 - 1)) ((B.take nB).drop 1)) := hide (by
      have hcl := (unhide H3).cls
      rw [← unhide HNB] at hcl
      exact hcl.cut 1 nB (c3 - 1) (by omega) (by rw [unhide HNB]; omega) (by omega) _ (.inl rfl))
    clear H2 H3
    go_wp2_with fail
    refine wp_region_held_drew (S := fun W => W.cell? ⟨w.heap.size, 0, none⟩ = some (.string a) ∧ W.cell? ⟨w.heap.size, 1, none⟩ = some (.string b) ∧ W.cell? ⟨w.heap.size, 2, none⟩ = some (.string c) ∧ W.cell? ⟨w.heap.size, 3, none⟩ = some (.slice ao un.length ca)) (by kernel_rfl) q0 (fun hHeld => ?_)
    refine wpAnyH_take (i := 0) (v := ?_) rfl (by kernel_rfl) (by kernel_rfl) (by kernel_rfl) (fun _ _ _ h => h) (Or.inl ⟨by rfl, ?_⟩) (by assumption) ?_
    rotate_left
    · intro w' hSw; go_simp <;> with_reducible rfl
    simp only [Act.put, qA, qB, qC, qD, qE, qF]
    refine wpAnyH_take (i := 1) (v := ?_) rfl (by kernel_rfl) (by kernel_rfl) (by kernel_rfl) (fun _ _ _ h => h) (Or.inl ⟨by rfl, ?_⟩) (by assumption) ?_
    rotate_left
    · intro w' hSw; go_simp <;> with_reducible rfl
    simp only [Act.put, qA, qB, qC, qD, qE, qF]
    refine wpAnyH_take (i := 2) (v := ?_) rfl (by kernel_rfl) (by kernel_rfl) (by kernel_rfl) (fun _ _ _ h => h) (Or.inl ⟨by rfl, ?_⟩) (by assumption) ?_
    rotate_left
    · intro w' hSw; go_simp <;> with_reducible rfl
    simp only [Act.put, qA, qB, qC, qD, qE, qF]
    refine wpAnyH_take (i := 3) (v := ?_) rfl (by kernel_rfl) (by kernel_rfl) (by kernel_rfl) (fun _ _ _ h => h) (Or.inl ⟨by rfl, ?_⟩) (by assumption) ?_
    rotate_left
    · intro w' hSw; go_simp <;> with_reducible rfl
    simp only [Act.put, qA, qB, qC, qD, qE, qF]
    refine wpAnyH_take (i := 4) (v := ?_) rfl (by kernel_rfl) (by kernel_rfl) (by kernel_rfl) (fun _ _ _ h => h) (Or.inl ⟨by rfl, ?_⟩) (by assumption) ?_
    rotate_left
    · intro w' hSw; go_simp <;> with_reducible rfl
    simp only [Act.put, qA, qB, qC, qD, qE, qF]
    refine wpAnyH_take (i := 6) (v := ?_) rfl (by kernel_rfl) (by kernel_rfl) (by kernel_rfl) (fun _ _ _ h => h) (Or.inl ⟨by rfl, ?_⟩) (by assumption) ?_
    rotate_left
    · intro w' hSw; go_simp <;> with_reducible rfl
    simp only [Act.put, qA, qB, qC, qD, qE, qF]
    refine wpAnyH_take (i := 7) (v := ?_) rfl (by kernel_rfl) (by kernel_rfl) (by kernel_rfl) (fun _ _ _ h => h) (Or.inl ⟨by rfl, ?_⟩) (by assumption) ?_
    rotate_left
    · intro w' hSw; go_simp <;> with_reducible rfl
    simp only [Act.put, qA, qB, qC, qD, qE, qF]
    refine wpAnyH_take (i := 10) (v := ?_) rfl (by kernel_rfl) (by kernel_rfl) (by kernel_rfl) (fun _ _ _ h => h) (Or.inl ⟨by rfl, ?_⟩) (by assumption) ?_
    rotate_left
    · intro w' hSw; go_simp <;> with_reducible rfl
    simp only [Act.put, qA, qB, qC, qD, qE, qF]
    refine wpAnyH_take (i := 11) (v := ?_) rfl (by kernel_rfl) (by kernel_rfl) (by kernel_rfl) (fun _ _ _ h => h) (Or.inl ⟨by rfl, ?_⟩) (by assumption) ?_
    rotate_left
    · intro w' hSw; go_simp <;> with_reducible rfl
    simp only [Act.put, qA, qB, qC, qD, qE, qF]
    refine wpAnyH_take (i := 12) (v := ?_) rfl (by kernel_rfl) (by kernel_rfl) (by kernel_rfl) (fun _ _ _ h => h) (Or.inl ⟨by rfl, ?_⟩) (by assumption) ?_
    rotate_left
    · intro w' hSw; go_simp <;> with_reducible rfl
    simp only [Act.put, qA, qB, qC, qD, qE, qF]
    refine wpAnyH_take (i := 13) (v := ?_) rfl (by kernel_rfl) (by kernel_rfl) (by kernel_rfl) (fun _ _ _ h => h) (Or.inl ⟨by rfl, ?_⟩) (by assumption) ?_
    rotate_left
    · intro w' hSw; go_simp <;> with_reducible rfl
    simp only [Act.put, qA, qB, qC, qD, qE, qF]
    refine wpAnyH_take (i := 16) (v := ?_) rfl (by kernel_rfl) (by kernel_rfl) (by kernel_rfl) (fun _ _ _ h => h) (Or.inl ⟨by rfl, ?_⟩) (by assumption) ?_
    rotate_left
    · intro w' hSw; go_simp <;> with_reducible rfl
    simp only [Act.put, qA, qB, qC, qD, qE, qF]
    refine wpAnyH_take (i := 17) (v := ?_) rfl (by kernel_rfl) (by kernel_rfl) (by kernel_rfl) (fun _ _ _ h => h) (Or.inl ⟨by rfl, ?_⟩) (by assumption) ?_
    rotate_left
    · intro w' hSw; go_simp <;> with_reducible rfl
    simp only [Act.put, qA, qB, qC, qD, qE, qF]
    refine wpAnyH_ready (rs := [5]) (by kernel_rfl) (by simp) ?_
    refine AllReadyH.cons rfl (fun K hK => ?_) AllReadyH.nil
    go_simp
    go_wp2_with (go_at_call 56; refine ((unhide HX1) _ _ ((unhide CX1).ext (by first | exact Ext.refl _ | exact (Ext.refl _).drew))).mono ?_; rintro e w4 ⟨rfl, E⟩; have F4 : Ext w3 w4 := (by first | exact E | exact (Ext.refl _).drew.trans E); have dF4 := F4.kept (unhide HB0); clear E)
    refine hK.out _ _ ⟨cells_of dF4 0 _ rfl, cells_of dF4 1 _ rfl, cells_of dF4 2 _ rfl, cells_of dF4 3 _ rfl⟩ (fun hHeld => ?_)
    clear hK K
    refine wpAnyH_ready (rs := [8]) (by kernel_rfl) (by simp) ?_
    refine AllReadyH.cons rfl (fun K hK => ?_) AllReadyH.nil
    go_simp
    go_wp2_with (go_at_call 56; refine ((unhide HX2) _ _ ((unhide CX2).ext (by first | exact F4 | exact F4.drew))).mono ?_; rintro e w6 ⟨rfl, E⟩; have F6 : Ext w3 w6 := (by first | exact F4.trans E | exact F4.drew.trans E); have dF6 := F6.kept (unhide HB0); clear E)
    refine hK.out _ _ ⟨cells_of dF6 0 _ rfl, cells_of dF6 1 _ rfl, cells_of dF6 2 _ rfl, cells_of dF6 3 _ rfl⟩ (fun hHeld => ?_)
    clear hK K
    refine wpAnyH_take (i := 9) (v := ?_) rfl (by kernel_rfl) (by kernel_rfl) (by kernel_rfl) (fun _ _ _ h => h) (Or.inl ⟨by rfl, ?_⟩) (by assumption) ?_
    rotate_left
    · intro w' hSw; go_simp <;> with_reducible rfl
    simp only [Act.put, qA, qB, qC, qD, qE, qF]
    refine wpAnyH_ready (rs := [14]) (by kernel_rfl) (by simp) ?_
    refine AllReadyH.cons rfl (fun K hK => ?_) AllReadyH.nil
    go_simp
    go_wp2_with (go_at_call 56; refine ((unhide HX3) _ _ ((unhide CX3).ext (by first | exact F6 | exact F6.drew))).mono ?_; rintro e w7 ⟨rfl, E⟩; have F7 : Ext w3 w7 := (by first | exact F6.trans E | exact F6.drew.trans E); have dF7 := F7.kept (unhide HB0); clear E)
    refine hK.out _ _ ⟨cells_of dF7 0 _ rfl, cells_of dF7 1 _ rfl, cells_of dF7 2 _ rfl, cells_of dF7 3 _ rfl⟩ (fun hHeld => ?_)
    clear hK K
    refine wpAnyH_take (i := 15) (v := ?_) rfl (by kernel_rfl) (by kernel_rfl) (by kernel_rfl) (fun _ _ _ h => h) (Or.inl ⟨by rfl, ?_⟩) (by assumption) ?_
    rotate_left
    · intro w' hSw; go_simp <;> with_reducible rfl
    simp only [Act.put, qA, qB, qC, qD, qE, qF]
    refine wpAnyH_ready (rs := [18]) (by kernel_rfl) (by simp) ?_
    refine AllReadyH.cons rfl (fun K hK => ?_) AllReadyH.nil
    go_simp
    go_wp2_with (go_at_call 56; refine ((unhide HX4) _ _ ((unhide CX4).ext (by first | exact F7 | exact F7.drew))).mono ?_; rintro e w8 ⟨rfl, E⟩; have F8 : Ext w3 w8 := (by first | exact F7.trans E | exact F7.drew.trans E); have dF8 := F8.kept (unhide HB0); clear E)
    refine hK.out _ _ ⟨cells_of dF8 0 _ rfl, cells_of dF8 1 _ rfl, cells_of dF8 2 _ rfl, cells_of dF8 3 _ rfl⟩ (fun hHeld => ?_)
    clear hK K
    refine wpAnyH_ready (rs := [19]) (by kernel_rfl) (by simp) ?_
    refine AllReadyH.cons rfl (fun K hK => ?_) AllReadyH.nil
    go_simp
    go_wp2_with (go_at_call 112; refine ((unhide HS) _ _ _ ((unhide HE0).trans F8)).mono ?_; rintro e w5 ⟨v5, rfl, hO, E5⟩; obtain ⟨ua, uc, rfl⟩ : ∃ ua uc, v5 = .slice ua (undoN un (a, b)).length uc := (by obtain ⟨x, y, e, _⟩ := hO.reads; exact ⟨x, y, e⟩); have HO5 := hide hO; have HB05 := hide (E5.kept (F8.kept (unhide HB0))); have HB15 := hide (E5.kept (F8.kept (unhide HB1))); have HE5 := hide (((unhide HE0).trans F8).trans E5); have s5 := ((unhide HE0).trans F8).size; have s6 := F8.size; clear hO E5)
    refine hK.out _ _ ⟨cells_of (unhide HB05) 0 _ rfl, cells_of (unhide HB05) 1 _ rfl, cells_of (unhide HB05) 2 _ rfl, cells_of (unhide HB05) 3 _ rfl⟩ (fun hHeld => ?_)
    clear hK K
    refine wpAnyH_ready (rs := [20]) (by kernel_rfl) (by simp) ?_
    refine AllReadyH.cons rfl (fun K hK => ?_) AllReadyH.nil
    refine wp_store_blk 46 _ _ rfl rfl (w.heap.size + 1) rfl _ _ #[.string (X1 ++ X2 ++ X3), .string X4, .string c, .slice ua (undoN un (a, b)).length uc] rfl (unhide HB15) infoL rfl (by simp [Value.oneCell']) ?_
    intro Z hy hf9
    have hb9 := hf9.kept (unhide HB05) (by omega)
    refine hK.out _ _ ⟨cells_of hb9 0 _ rfl, cells_of hb9 1 _ rfl, cells_of hb9 2 _ rfl, cells_of hb9 3 _ rfl⟩ (fun hHeld => ?_)
    have HY := hide hy
    have FY := hide hf9
    clear hK K hy hf9 hb9
    refine wpAnyH_take (i := 21) (v := ?_) rfl (by kernel_rfl) (by kernel_rfl) (by kernel_rfl) (fun _ _ _ h => h) (Or.inl ⟨by rfl, ?_⟩) (by assumption) ?_
    rotate_left
    · intro w' hSw; go_simp <;> with_reducible rfl
    simp only [Act.put, qA, qB, qC, qD, qE, qF]
    refine wpAnyH_done (by kernel_rfl) ?_ _
    go_wp2
    have v0 : Z.cell? ⟨w.heap.size + 1, 0, none⟩ = some (.string (X1 ++ X2 ++ X3)) := cells_of (unhide HY) 0 _ rfl
    have v1 : Z.cell? ⟨w.heap.size + 1, 1, none⟩ = some (.string X4) := cells_of (unhide HY) 1 _ rfl
    have v2 : Z.cell? ⟨w.heap.size + 1, 2, none⟩ = some (.string c) := cells_of (unhide HY) 2 _ rfl
    have v3 : Z.cell? ⟨w.heap.size + 1, 3, none⟩ = some (.slice ua (undoN un (a, b)).length uc) := cells_of (unhide HY) 3 _ rfl
    exact bodyPost_ret (v := .tuple #[.agg #[.string (X1 ++ X2 ++ X3), .string X4, .string c, .slice ua (undoN un (a, b)).length uc], .int .i64 1]) (by simp [results, Tryd.results130, go_sem, v0, v1, v2, v3]) rfl (by rw [unhide HXO]; exact ⟨⟨_, rfl, ((unhide HO5).fr (unhide FY) (fun g hg e9 => by have := ((unhide HO5).lt g hg).1; omega)).mono (by omega)⟩, (unhide FY).ext (unhide HE5) (fun q hq => by omega)⟩)
end Go.Proofs.YtbieoijeilhadaaDoor
