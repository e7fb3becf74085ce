import Derived.Test.YtbieoijeilhadaaDoorGap
import Derived.Test.YtbieoijeilhadaaDoorEdK
import Derived.Deep.RegionHeld3
namespace Go.Proofs.YtbieoijeilhadaaDoor
open Go.RowKit
theorem ad_eq2 (g p : Nat) : (some (⟨g, p * 2, none⟩ : Addr)) = Option.map (fun x : Addr => x.add (p * 2)) (some (⟨g, 0, none⟩ : Addr)) := by
  by_cases h : p * 2 = 0 <;> simp [Addr.add, h]
set_option linter.unusedSimpArgs false in
set_option maxRecDepth 10000 in
set_option maxHeartbeats 8000000 in
theorem l4Swapped_end (a b c : ByteArray) (v : Value) (un : List (ByteArray × ByteArray)) (w : World) (hv : LnAt w v un) (hn : un.length ≤ 50) (za : a.size ≤ 1048576) (zb : b.size ≤ 1048576) (hN : 2 ≤ (cutC (baL a)).length ∧ (cutC (baL b)).length = 0) :
    Calls Tryd.prog 130 #[.agg #[.string a, .string b, .string c, v]] w fun e w' => LnO w' w.heap.size (edSet a b c un (toBA (textC ((cutC (baL a)).take ((cutC (baL a)).length - 2)) ++ textC ((cutC (baL a)).drop ((cutC (baL a)).length - 1)) ++ textC (((cutC (baL a)).take ((cutC (baL a)).length - 1)).drop ((cutC (baL a)).length - 2)))) noT) e ∧ Ext w w' := by
  have infoL : (Tryd.prog.info? 46).map (·.size) = some 4 := by kernel_rfl
  have hcA := hide (fun W => l4Cut_any (baL a) (baL_bytes a) W (by rw [baL_len]; omega))
  have hcB := hide (fun W => l4Cut_any (baL b) (baL_bytes b) W (by rw [baL_len]; omega))
  rw [toBA_baL] at hcA hcB
  have HCA := hide (cuts_one (baL a))
  have HCB := hide (cuts_one (baL b))
  rw [baL_len] at HCA HCB
  have lA := cutC_len (baL a)
  have lB := cutC_len (baL b)
  rw [baL_len] at lA lB
  obtain ⟨ao, ca, rfl, _, _⟩ := id hv
  have HC := hide (fun W (E : Ext w W) => l4Copy_any a b c (.slice ao un.length ca) un.length (lnT un) (lnH un) W (Row2At.ext hv E) (by omega))
  have HS := hide (fun l r W (E : Ext w W) => l4Set_any a b c l r (.slice ao un.length ca) un.length (lnT un) (lnH un) W (Row2At.ext hv E) hn)
  rw [unL_ln] at HS
  clear hv
  obtain ⟨A, hA⟩ : ∃ A, A = cutC (baL a) := ⟨_, rfl⟩
  obtain ⟨B, hB⟩ : ∃ B, B = cutC (baL b) := ⟨_, rfl⟩
  rw [← hA, ← hB] at hN
  rw [← hA] at hcA lA HCA
  rw [← hB] at hcB lB HCB
  obtain ⟨nA, hnA⟩ : ∃ n, A.length = n := ⟨_, rfl⟩
  obtain ⟨nB, hnB⟩ : ∃ n, B.length = n := ⟨_, rfl⟩
  rw [hnA] at lA
  rw [hnB] at lB
  rw [hnA, hnB] at hN
  obtain ⟨h1, h2⟩ := hN
  subst h2
  have HNA := hide hnA
  have HNB := hide hnB
  have HXA := hide hA
  have HXB := hide hB
  clear hA hB hnA hnB
  obtain ⟨V, hV⟩ : ∃ V, V = (w.alloc (.cells #[.string a, .string b, .string c, .slice ao un.length ca] 46)).alloc (.cells #[.string { data := #[] }, .string { data := #[] }, .string { data := #[] }, .slice none 0 0] 46) := ⟨_, rfl⟩
  have E0 : Ext w V := by rw [hV]; exact ((Ext.refl w).alloc _).alloc _
  have HB0 : Hid (V.heap[w.heap.size]? = some (.cells #[.string a, .string b, .string c, .slice ao un.length ca] 46 (0, 0))) := hide (by rw [hV]; exact ((Ext.refl _).alloc _).kept (new_block w _))
  have HB1 : Hid (V.heap[w.heap.size + 1]? = some (.cells #[.string { data := #[] }, .string { data := #[] }, .string { data := #[] }, .slice none 0 0] 46 (0, 0))) := hide (by rw [hV]; have h := new_block (w.alloc (.cells #[.string a, .string b, .string c, .slice ao un.length ca] 46)) (.cells #[.string { data := #[] }, .string { data := #[] }, .string { data := #[] }, .slice none 0 0] 46); rw [show (w.alloc (.cells #[.string a, .string b, .string c, .slice ao un.length ca] 46)).heap.size = w.heap.size + 1 by simp] at h; exact h)
  have sz0 : w.heap.size + 1 < V.heap.size := lt_of_block (unhide HB1)
  have HW := hide hV
  have HE0 := hide E0
  clear hV E0
  go_enter Tryd.func130, Tryd.ntmps130
  go_wp2_with fail
  rw [← unhide HW]
  clear HW
  refine ((unhide hcA) _).mono ?_
  rintro e w2 ⟨v2, rs2, rfl, o2, E2⟩
  obtain ⟨a2, c2, rfl⟩ : ∃ a c, v2 = .slice a A.length c := by
    obtain ⟨_, ao, cc, e, _⟩ := o2.cls
    exact ⟨ao, cc, e⟩
  have H2 := hide o2
  rw [unhide HNA] at H2 ⊢
  replace HB0 := hide (E2.kept (unhide HB0))
  replace HB1 := hide (E2.kept (unhide HB1))
  replace HE0 := hide ((unhide HE0).trans E2)
  have q1 : w2.cell? ⟨w.heap.size, 1, none⟩ = some (.string b) := cells_of (unhide HB0) 1 _ rfl
  have z2 := E2.size
  clear o2 E2 hcA
  go_wp2_with fail
  refine ((unhide hcB) _).mono ?_
  rintro e w3 ⟨v3, rs3, rfl, o3, E3⟩
  obtain ⟨a3, c3, rfl⟩ : ∃ a c, v3 = .slice a B.length c := by
    obtain ⟨_, ao, cc, e, _⟩ := o3.cls
    exact ⟨ao, cc, e⟩
  have H3 := hide o3
  rw [unhide HNB] at H3 ⊢
  replace H2 := hide ((unhide H2).ext E3)
  replace HB0 := hide (E3.kept (unhide HB0))
  replace HB1 := hide (E3.kept (unhide HB1))
  replace HE0 := hide ((unhide HE0).trans E3)
  have z3 := E3.size
  clear o3 E3 hcB q1
  have hc2 : nA ≤ c2 := by
    obtain ⟨_, _, _, e9, h9, _⟩ := (unhide H2).cls
    obtain ⟨_, _, rfl⟩ := Value.slice.inj e9
    rw [unhide HNA] at h9
    exact h9
  obtain ⟨p, hp⟩ : ∃ p, nA - 1 = p := ⟨_, rfl⟩
  obtain ⟨r, hr⟩ : ∃ r, nA - 2 = r := ⟨_, rfl⟩
  have hw : IntKind.i64.wrap ((nA : Int) - 1) = (p : Int) := by rw [IntKind.wrap_i64]; omega
  have hw2 : IntKind.i64.wrap ((nA : Int) - 2) = (r : Int) := by rw [IntKind.wrap_i64]; omega
  have g1 : (1 : Int) ≤ (nA : Int) := by omega
  have g2 : (2 : Int) ≤ (nA : Int) := by omega
  have g3 : (p : Int) ≤ (c2 : Int) := by omega
  have g4 : (0 : Int) ≤ (p : Int) := by omega
  have g5 : (p : Int) ≤ (nA : Int) := by omega
  have g6 : (nA : Int) ≤ (c2 : Int) := by omega
  have g7 : (r : Int) ≤ (c2 : Int) := by omega
  have g8 : (0 : Int) ≤ (r : Int) := by omega
  have g9 : ¬ c2 = p := by omega
  have g10 : ¬ c2 = r := by omega
  have g11 : (r : Int) ≤ (p : Int) := by omega
  obtain ⟨ga, hga⟩ : ∃ g, a2 = some ⟨g, 0, none⟩ := by
    obtain ⟨_, ⟨ys, hy, _⟩, _⟩ := unhide H2
    rcases hy.2 with ⟨_, e0⟩ | ⟨g, cc, cur, e0, _⟩
    · rw [unhide HNA] at e0; omega
    · exact ⟨g, (Value.slice.inj e0).1⟩
  subst hga
  have HX1 := hide (fun v W (hv : ClsAt W v ((A.take r).drop 0)) => specTextOf_any v _ W hv (by have := ((unhide HCA).part 0 r).1; omega) (fun j _ => ((unhide HCA).part 0 r).2 j))
  obtain ⟨X1, hX1⟩ : ∃ x, x = toBA (textC ((A.take r).drop 0)) := ⟨_, rfl⟩
  rw [← hX1] at HX1
  have zX1 : X1.size ≤ 100000000 := by
    rw [hX1, toBA_size]
    have h8 := ((unhide HCA).part 0 r).1
    have h9 := txT_len ((A.take r).drop 0) ((A.take r).drop 0).length
    unfold textC
    omega
  have HX2 := hide (fun v W (hv : ClsAt W v ((A.take nA).drop p)) => specTextOf_any v _ W hv (by have := ((unhide HCA).part p nA).1; omega) (fun j _ => ((unhide HCA).part p nA).2 j))
  obtain ⟨X2, hX2⟩ : ∃ x, x = toBA (textC ((A.take nA).drop p)) := ⟨_, rfl⟩
  rw [← hX2] at HX2
  have zX2 : X2.size ≤ 100000000 := by
    rw [hX2, toBA_size]
    have h8 := ((unhide HCA).part p nA).1
    have h9 := txT_len ((A.take nA).drop p) ((A.take nA).drop p).length
    unfold textC
    omega
  have HX3 := hide (fun v W (hv : ClsAt W v ((A.take p).drop r)) => specTextOf_any v _ W hv (by have := ((unhide HCA).part r p).1; omega) (fun j _ => ((unhide HCA).part r p).2 j))
  obtain ⟨X3, hX3⟩ : ∃ x, x = toBA (textC ((A.take p).drop r)) := ⟨_, rfl⟩
  rw [← hX3] at HX3
  have zX3 : X3.size ≤ 100000000 := by
    rw [hX3, toBA_size]
    have h8 := ((unhide HCA).part r p).1
    have h9 := txT_len ((A.take p).drop r) ((A.take p).drop r).length
    unfold textC
    omega
  have CX1 : Hid (ClsAt w3 (.slice (some ⟨ga, 0, none⟩) (r - 0) c2) ((A.take r).drop 0)) := hide (by
    have hcl := (unhide H2).cls
    rw [← unhide HNA] at hcl
    exact hcl.cut 0 r c2 (by omega) (by rw [unhide HNA]; omega) (by omega) (some ⟨ga, 0, none⟩) (.inl rfl))
  have CX2 : Hid (ClsAt w3 (.slice (some ⟨ga, p * 2, none⟩) (nA - p) (c2 - p)) ((A.take nA).drop p)) := hide (by
    have hcl := (unhide H2).cls
    rw [← unhide HNA] at hcl
    exact hcl.cut p nA (c2 - p) (by omega) (by rw [unhide HNA]; omega) (by omega) (some ⟨ga, p * 2, none⟩) (.inl (ad_eq2 _ _)))
  have CX3 : Hid (ClsAt w3 (.slice (some ⟨ga, r * 2, none⟩) (p - r) (c2 - r)) ((A.take p).drop r)) := hide (by
    have hcl := (unhide H2).cls
    rw [← unhide HNA] at hcl
    exact hcl.cut r p (c2 - r) (by omega) (by rw [unhide HNA]; omega) (by omega) (some ⟨ga, r * 2, none⟩) (.inl (ad_eq2 _ _)))
  have HXO : Hid (edSet a b c un (toBA (textC ((cutC (baL a)).take ((cutC (baL a)).length - 2)) ++ textC ((cutC (baL a)).drop ((cutC (baL a)).length - 1)) ++ textC (((cutC (baL a)).take ((cutC (baL a)).length - 1)).drop ((cutC (baL a)).length - 2)))) noT = ⟨X1 ++ X2 ++ X3, { data := #[] }, c, undoN un (a, b), 1⟩) := hide (by
    rw [hX1, hX2, hX3, toBA_app, toBA_app, ← unhide HXA, unhide HNA, hp, hr, List.drop_zero, ← unhide HNA, List.take_length]
    rfl)
  have s5 : (X1 ++ X2).size = X1.size + X2.size := ByteArray.size_append
  have s6 : ¬ 9223372036854775807 < X1.size + X2.size := by omega
  have s7 : ¬ 9223372036854775807 < X1.size + X2.size + X3.size := by omega
  have s8 : ¬ 9223372036854775807 < (X1 ++ X2).size + X3.size := by omega
  have q0 : w3.cell? ⟨w.heap.size, 0, none⟩ = some (.string a) ∧ w3.cell? ⟨w.heap.size, 1, none⟩ = some (.string b) ∧ w3.cell? ⟨w.heap.size, 2, none⟩ = some (.string c) ∧ w3.cell? ⟨w.heap.size, 3, none⟩ = some (.slice ao un.length ca) := ⟨cells_of (unhide HB0) 0 _ rfl, cells_of (unhide HB0) 1 _ rfl, cells_of (unhide HB0) 2 _ rfl, cells_of (unhide HB0) 3 _ rfl⟩
  clear hX1 hX2 hX3 hp hr HC H2 H3
  go_wp2_with fail
  refine wp_region_held_drew (S := fun W => W.cell? ⟨w.heap.size, 0, none⟩ = some (.string a) ∧ W.cell? ⟨w.heap.size, 1, none⟩ = some (.string b) ∧ W.cell? ⟨w.heap.size, 2, none⟩ = some (.string c) ∧ W.cell? ⟨w.heap.size, 3, none⟩ = some (.slice ao un.length ca)) (by kernel_rfl) q0 (fun hHeld => ?_)
  refine wpAnyH_take (i := 0) (v := ?_) rfl (by kernel_rfl) (by kernel_rfl) (by kernel_rfl) (fun _ _ _ h => h) (Or.inl ⟨by rfl, ?_⟩) (by assumption) ?_
  rotate_left
  · intro w' hSw; go_simp <;> with_reducible rfl
  simp only [Act.put, qA, qB, qC, qD, qE, qF]
  refine wpAnyH_take (i := 1) (v := ?_) rfl (by kernel_rfl) (by kernel_rfl) (by kernel_rfl) (fun _ _ _ h => h) (Or.inl ⟨by rfl, ?_⟩) (by assumption) ?_
  rotate_left
  · intro w' hSw; go_simp <;> with_reducible rfl
  simp only [Act.put, qA, qB, qC, qD, qE, qF]
  refine wpAnyH_take (i := 2) (v := ?_) rfl (by kernel_rfl) (by kernel_rfl) (by kernel_rfl) (fun _ _ _ h => h) (Or.inl ⟨by rfl, ?_⟩) (by assumption) ?_
  rotate_left
  · intro w' hSw; go_simp <;> with_reducible rfl
  simp only [Act.put, qA, qB, qC, qD, qE, qF]
  refine wpAnyH_take (i := 3) (v := ?_) rfl (by kernel_rfl) (by kernel_rfl) (by kernel_rfl) (fun _ _ _ h => h) (Or.inl ⟨by rfl, ?_⟩) (by assumption) ?_
  rotate_left
  · intro w' hSw; go_simp <;> with_reducible rfl
  simp only [Act.put, qA, qB, qC, qD, qE, qF]
  refine wpAnyH_take (i := 4) (v := ?_) rfl (by kernel_rfl) (by kernel_rfl) (by kernel_rfl) (fun _ _ _ h => h) (Or.inl ⟨by rfl, ?_⟩) (by assumption) ?_
  rotate_left
  · intro w' hSw; go_simp <;> with_reducible rfl
  simp only [Act.put, qA, qB, qC, qD, qE, qF]
  refine wpAnyH_take (i := 6) (v := ?_) rfl (by kernel_rfl) (by kernel_rfl) (by kernel_rfl) (fun _ _ _ h => h) (Or.inl ⟨by rfl, ?_⟩) (by assumption) ?_
  rotate_left
  · intro w' hSw; go_simp <;> with_reducible rfl
  simp only [Act.put, qA, qB, qC, qD, qE, qF]
  refine wpAnyH_take (i := 7) (v := ?_) rfl (by kernel_rfl) (by kernel_rfl) (by kernel_rfl) (fun _ _ _ h => h) (Or.inl ⟨by rfl, ?_⟩) (by assumption) ?_
  rotate_left
  · intro w' hSw; go_simp <;> with_reducible rfl
  simp only [Act.put, qA, qB, qC, qD, qE, qF]
  refine wpAnyH_take (i := 8) (v := ?_) rfl (by kernel_rfl) (by kernel_rfl) (by kernel_rfl) (fun _ _ _ h => h) (Or.inl ⟨by rfl, ?_⟩) (by assumption) ?_
  rotate_left
  · intro w' hSw; go_simp <;> with_reducible rfl
  simp only [Act.put, qA, qB, qC, qD, qE, qF]
  refine wpAnyH_take (i := 9) (v := ?_) rfl (by kernel_rfl) (by kernel_rfl) (by kernel_rfl) (fun _ _ _ h => h) (Or.inl ⟨by rfl, ?_⟩) (by assumption) ?_
  rotate_left
  · intro w' hSw; go_simp <;> with_reducible rfl
  simp only [Act.put, qA, qB, qC, qD, qE, qF]
  refine wpAnyH_take (i := 12) (v := ?_) rfl (by kernel_rfl) (by kernel_rfl) (by kernel_rfl) (fun _ _ _ h => h) (Or.inl ⟨by rfl, ?_⟩) (by assumption) ?_
  rotate_left
  · intro w' hSw; go_simp <;> with_reducible rfl
  simp only [Act.put, qA, qB, qC, qD, qE, qF]
  refine wpAnyH_take (i := 13) (v := ?_) rfl (by kernel_rfl) (by kernel_rfl) (by kernel_rfl) (fun _ _ _ h => h) (Or.inl ⟨by rfl, ?_⟩) (by assumption) ?_
  rotate_left
  · intro w' hSw; go_simp <;> with_reducible rfl
  simp only [Act.put, qA, qB, qC, qD, qE, qF]
  refine wpAnyH_take (i := 14) (v := ?_) rfl (by kernel_rfl) (by kernel_rfl) (by kernel_rfl) (fun _ _ _ h => h) (Or.inl ⟨by rfl, ?_⟩) (by assumption) ?_
  rotate_left
  · intro w' hSw; go_simp <;> with_reducible rfl
  simp only [Act.put, qA, qB, qC, qD, qE, qF]
  refine wpAnyH_take (i := 15) (v := ?_) rfl (by kernel_rfl) (by kernel_rfl) (by kernel_rfl) (fun _ _ _ h => h) (Or.inl ⟨by rfl, ?_⟩) (by assumption) ?_
  rotate_left
  · intro w' hSw; go_simp <;> with_reducible rfl
  simp only [Act.put, qA, qB, qC, qD, qE, qF]
  refine wpAnyH_take (i := 16) (v := ?_) rfl (by kernel_rfl) (by kernel_rfl) (by kernel_rfl) (fun _ _ _ h => h) (Or.inl ⟨by rfl, ?_⟩) (by assumption) ?_
  rotate_left
  · intro w' hSw; go_simp <;> with_reducible rfl
  simp only [Act.put, qA, qB, qC, qD, qE, qF]
  refine wpAnyH_take (i := 17) (v := ?_) rfl (by kernel_rfl) (by kernel_rfl) (by kernel_rfl) (fun _ _ _ h => h) (Or.inl ⟨by rfl, ?_⟩) (by assumption) ?_
  rotate_left
  · intro w' hSw; go_simp <;> with_reducible rfl
  simp only [Act.put, qA, qB, qC, qD, qE, qF]
  refine wpAnyH_ready (rs := [5]) (by kernel_rfl) (by simp) ?_
  refine AllReadyH.cons rfl (fun K hK => ?_) AllReadyH.nil
  go_simp
  go_wp2_with (go_at_call 56; refine ((unhide HX1) _ _ ((unhide CX1).ext (by first | exact Ext.refl _ | exact (Ext.refl _).drew))).mono ?_; rintro e w4 ⟨rfl, E⟩; have F4 : Ext w3 w4 := (by first | exact E | exact (Ext.refl _).drew.trans E); have dF4 := F4.kept (unhide HB0); clear E)
  refine hK.out _ _ ⟨cells_of dF4 0 _ rfl, cells_of dF4 1 _ rfl, cells_of dF4 2 _ rfl, cells_of dF4 3 _ rfl⟩ (fun hHeld => ?_)
  clear hK K
  refine wpAnyH_ready (rs := [10]) (by kernel_rfl) (by simp) ?_
  refine AllReadyH.cons rfl (fun K hK => ?_) AllReadyH.nil
  go_simp
  go_wp2_with (go_at_call 56; refine ((unhide HX2) _ _ ((unhide CX2).ext (by first | exact F4 | exact F4.drew))).mono ?_; rintro e w6 ⟨rfl, E⟩; have F6 : Ext w3 w6 := (by first | exact F4.trans E | exact F4.drew.trans E); have dF6 := F6.kept (unhide HB0); clear E)
  refine hK.out _ _ ⟨cells_of dF6 0 _ rfl, cells_of dF6 1 _ rfl, cells_of dF6 2 _ rfl, cells_of dF6 3 _ rfl⟩ (fun hHeld => ?_)
  clear hK K
  refine wpAnyH_take (i := 11) (v := ?_) rfl (by kernel_rfl) (by kernel_rfl) (by kernel_rfl) (fun _ _ _ h => h) (Or.inl ⟨by rfl, ?_⟩) (by assumption) ?_
  rotate_left
  · intro w' hSw; go_simp <;> with_reducible rfl
  simp only [Act.put, qA, qB, qC, qD, qE, qF]
  refine wpAnyH_ready (rs := [18]) (by kernel_rfl) (by simp) ?_
  refine AllReadyH.cons rfl (fun K hK => ?_) AllReadyH.nil
  go_simp
  go_wp2_with (go_at_call 56; refine ((unhide HX3) _ _ ((unhide CX3).ext (by first | exact F6 | exact F6.drew))).mono ?_; rintro e w7 ⟨rfl, E⟩; have F7 : Ext w3 w7 := (by first | exact F6.trans E | exact F6.drew.trans E); have dF7 := F7.kept (unhide HB0); clear E)
  refine hK.out _ _ ⟨cells_of dF7 0 _ rfl, cells_of dF7 1 _ rfl, cells_of dF7 2 _ rfl, cells_of dF7 3 _ rfl⟩ (fun hHeld => ?_)
  clear hK K
  refine wpAnyH_take (i := 19) (v := ?_) rfl (by kernel_rfl) (by kernel_rfl) (by kernel_rfl) (fun _ _ _ h => h) (Or.inl ⟨by rfl, ?_⟩) (by assumption) ?_
  rotate_left
  · intro w' hSw; go_simp <;> with_reducible rfl
  simp only [Act.put, qA, qB, qC, qD, qE, qF]
  refine wpAnyH_ready (rs := [20]) (by kernel_rfl) (by simp) ?_
  refine AllReadyH.cons rfl (fun K hK => ?_) AllReadyH.nil
  go_simp
  go_wp2_with (go_at_call 112; refine ((unhide HS) _ _ _ ((unhide HE0).trans F7)).mono ?_; rintro e w5 ⟨v5, rfl, hO, E5⟩; obtain ⟨ua, uc, rfl⟩ : ∃ ua uc, v5 = .slice ua (undoN un (a, b)).length uc := (by obtain ⟨x, y, e, _⟩ := hO.reads; exact ⟨x, y, e⟩); have HO5 := hide hO; have HB05 := hide (E5.kept (F7.kept (unhide HB0))); have HB15 := hide (E5.kept (F7.kept (unhide HB1))); have HE5 := hide (((unhide HE0).trans F7).trans E5); have s5 := ((unhide HE0).trans F7).size; have s6 := F7.size; clear hO E5)
  refine hK.out _ _ ⟨cells_of (unhide HB05) 0 _ rfl, cells_of (unhide HB05) 1 _ rfl, cells_of (unhide HB05) 2 _ rfl, cells_of (unhide HB05) 3 _ rfl⟩ (fun hHeld => ?_)
  clear hK K
  refine wpAnyH_ready (rs := [21]) (by kernel_rfl) (by simp) ?_
  refine AllReadyH.cons rfl (fun K hK => ?_) AllReadyH.nil
  refine wp_store_blk 46 _ _ rfl rfl (w.heap.size + 1) rfl _ _ #[.string (X1 ++ X2 ++ X3), .string { data := #[] }, .string c, .slice ua (undoN un (a, b)).length uc] rfl (unhide HB15) infoL rfl (by simp [Value.oneCell']) ?_
  intro Z hy hf9
  have hb9 := hf9.kept (unhide HB05) (by omega)
  refine hK.out _ _ ⟨cells_of hb9 0 _ rfl, cells_of hb9 1 _ rfl, cells_of hb9 2 _ rfl, cells_of hb9 3 _ rfl⟩ (fun hHeld => ?_)
  have HY := hide hy
  have FY := hide hf9
  clear hK K hy hf9 hb9
  refine wpAnyH_take (i := 22) (v := ?_) rfl (by kernel_rfl) (by kernel_rfl) (by kernel_rfl) (fun _ _ _ h => h) (Or.inl ⟨by rfl, ?_⟩) (by assumption) ?_
  rotate_left
  · intro w' hSw; go_simp <;> with_reducible rfl
  simp only [Act.put, qA, qB, qC, qD, qE, qF]
  refine wpAnyH_done (by kernel_rfl) ?_ _
  go_wp2
  have v0 : Z.cell? ⟨w.heap.size + 1, 0, none⟩ = some (.string (X1 ++ X2 ++ X3)) := cells_of (unhide HY) 0 _ rfl
  have v1 : Z.cell? ⟨w.heap.size + 1, 1, none⟩ = some (.string { data := #[] }) := cells_of (unhide HY) 1 _ rfl
  have v2 : Z.cell? ⟨w.heap.size + 1, 2, none⟩ = some (.string c) := cells_of (unhide HY) 2 _ rfl
  have v3 : Z.cell? ⟨w.heap.size + 1, 3, none⟩ = some (.slice ua (undoN un (a, b)).length uc) := cells_of (unhide HY) 3 _ rfl
  exact bodyPost_ret (v := .tuple #[.agg #[.string (X1 ++ X2 ++ X3), .string { data := #[] }, .string c, .slice ua (undoN un (a, b)).length uc], .int .i64 1]) (by simp [results, Tryd.results130, go_sem, v0, v1, v2, v3]) rfl (by rw [unhide HXO]; exact ⟨⟨_, rfl, ((unhide HO5).fr (unhide FY) (fun g hg e9 => by have := ((unhide HO5).lt g hg).1; omega)).mono (by omega)⟩, (unhide FY).ext (unhide HE5) (fun q hq => by omega)⟩)
end Go.Proofs.YtbieoijeilhadaaDoor

namespace Go.Proofs.YtbieoijeilhadaaDoor
open Go.RowKit
set_option maxRecDepth 10000 in
set_option maxHeartbeats 8000000 in
theorem l4Moved_none (a b c : ByteArray) (v : Value) (un : List (ByteArray × ByteArray)) (w : World) (hv : LnAt w v un) (za : a.size ≤ 1048576) (zb : b.size ≤ 1048576) (kd : Int) (h6 : ¬ kd = 6) (h7 : ¬ kd = 7) (h8 : ¬ kd = 8) (h9 : ¬ kd = 9) (h18 : ¬ kd = 18) (h19 : ¬ kd = 19) :
    Calls Tryd.prog 124 #[.agg #[.string a, .string b, .string c, v], .int .i64 kd] w fun e w' => e = .returned (.tuple #[.agg #[.string a, .string b, .string c, v], .int .i64 (-1)]) ∧ Ext w w' := by
  have infoL : (Tryd.prog.info? 46).map (·.size) = some 4 := by kernel_rfl
  have hcA := hide (fun W => l4Cut_any (baL a) (baL_bytes a) W (by rw [baL_len]; omega))
  have hcB := hide (fun W => l4Cut_any (baL b) (baL_bytes b) W (by rw [baL_len]; omega))
  rw [toBA_baL] at hcA hcB
  have lA := cutC_len (baL a)
  have lB := cutC_len (baL b)
  rw [baL_len] at lA lB
  obtain ⟨ao, ca, rfl, _, _⟩ := id hv
  clear hv
  obtain ⟨A, hA⟩ : ∃ A, A = cutC (baL a) := ⟨_, rfl⟩
  obtain ⟨B, hB⟩ : ∃ B, B = cutC (baL b) := ⟨_, rfl⟩
  rw [← hA] at hcA lA
  rw [← hB] at hcB lB
  obtain ⟨nA, hnA⟩ : ∃ n, A.length = n := ⟨_, rfl⟩
  obtain ⟨nB, hnB⟩ : ∃ n, B.length = n := ⟨_, rfl⟩
  have HNA := hide hnA
  have HNB := hide hnB
  clear hA hB hnA hnB
  obtain ⟨V, hV⟩ : ∃ V, V = (w.alloc (.cells #[.string a, .string b, .string c, .slice ao un.length ca] 46)).alloc (.cells #[.string { data := #[] }, .string { data := #[] }, .string { data := #[] }, .slice none 0 0] 46) := ⟨_, rfl⟩
  have E0 : Ext w V := by rw [hV]; exact ((Ext.refl w).alloc _).alloc _
  have HB0 : Hid (V.heap[w.heap.size]? = some (.cells #[.string a, .string b, .string c, .slice ao un.length ca] 46 (0, 0))) := hide (by rw [hV]; exact ((Ext.refl _).alloc _).kept (new_block w _))
  have HB1 : Hid (V.heap[w.heap.size + 1]? = some (.cells #[.string { data := #[] }, .string { data := #[] }, .string { data := #[] }, .slice none 0 0] 46 (0, 0))) := hide (by rw [hV]; have h := new_block (w.alloc (.cells #[.string a, .string b, .string c, .slice ao un.length ca] 46)) (.cells #[.string { data := #[] }, .string { data := #[] }, .string { data := #[] }, .slice none 0 0] 46); rw [show (w.alloc (.cells #[.string a, .string b, .string c, .slice ao un.length ca] 46)).heap.size = w.heap.size + 1 by simp] at h; exact h)
  have sz0 : w.heap.size + 1 < V.heap.size := lt_of_block (unhide HB1)
  have HW := hide hV
  have HE0 := hide E0
  clear hV E0
  go_enter Tryd.func124, Tryd.ntmps124
  go_wp2_with fail
  rw [← unhide HW]
  clear HW
  refine ((unhide hcA) _).mono ?_
  rintro e w2 ⟨v2, rs2, rfl, o2, E2⟩
  obtain ⟨a2, c2, rfl⟩ : ∃ a c, v2 = .slice a A.length c := by
    obtain ⟨_, ao, cc, e, _⟩ := o2.cls
    exact ⟨ao, cc, e⟩
  have H2 := hide o2.cls
  rw [unhide HNA] at H2 ⊢
  replace HB0 := hide (E2.kept (unhide HB0))
  replace HB1 := hide (E2.kept (unhide HB1))
  replace HE0 := hide ((unhide HE0).trans E2)
  have q1 : w2.cell? ⟨w.heap.size, 1, none⟩ = some (.string b) := cells_of (unhide HB0) 1 _ rfl
  have z2 := E2.size
  clear o2 E2 hcA
  go_wp2_with fail
  refine ((unhide hcB) _).mono ?_
  rintro e w3 ⟨v3, rs3, rfl, o3, E3⟩
  obtain ⟨a3, c3, rfl⟩ : ∃ a c, v3 = .slice a B.length c := by
    obtain ⟨_, ao, cc, e, _⟩ := o3.cls
    exact ⟨ao, cc, e⟩
  have H3 := hide o3.cls
  rw [unhide HNB] at H3 ⊢
  replace H2 := hide ((unhide H2).ext E3)
  replace HB0 := hide (E3.kept (unhide HB0))
  replace HB1 := hide (E3.kept (unhide HB1))
  replace HE0 := hide ((unhide HE0).trans E3)
  have z3 := E3.size
  clear o3 E3 hcB q1
  clear H2 H3 HNA HNB
  go_wp2_with (first
    | (refine wpList_load_blk rfl 46 _ rfl (w.heap.size) rfl _ _ _ _ (unhide HB0) Tryd.underlying46 rfl infoL ?_)
    | (refine wpList_store_blk rfl 46 _ _ rfl rfl (w.heap.size + 1) rfl _ _ _ rfl (unhide HB1) infoL rfl (by simp [Value.oneCell']) ?_; intro Z hy hf9; have HY := hide hy; have FY := hide hf9; clear hy hf9))
  have v0 : Z.cell? ⟨w.heap.size + 1, 0, none⟩ = some (.string a) := cells_of (unhide HY) 0 _ rfl
  have v1 : Z.cell? ⟨w.heap.size + 1, 1, none⟩ = some (.string b) := cells_of (unhide HY) 1 _ rfl
  have v2 : Z.cell? ⟨w.heap.size + 1, 2, none⟩ = some (.string c) := cells_of (unhide HY) 2 _ rfl
  have v3 : Z.cell? ⟨w.heap.size + 1, 3, none⟩ = some (.slice ao un.length ca) := cells_of (unhide HY) 3 _ rfl
  exact bodyPost_ret (v := .tuple #[.agg #[.string a, .string b, .string c, .slice ao un.length ca], .int .i64 (-1)]) (by simp [results, Tryd.results124, go_sem, v0, v1, v2, v3]) rfl ⟨rfl, (unhide FY).ext (unhide HE0) (fun q hq => by omega)⟩
end Go.Proofs.YtbieoijeilhadaaDoor

namespace Go.Proofs.YtbieoijeilhadaaDoor
open Go.RowKit
set_option maxRecDepth 10000 in
set_option maxHeartbeats 8000000 in
theorem l4Moved_6_no (a b c : ByteArray) (v : Value) (un : List (ByteArray × ByteArray)) (w : World) (hv : LnAt w v un) (za : a.size ≤ 1048576) (zb : b.size ≤ 1048576) (XA XB : ByteArray) (N : Int) (hw : IntKind.i64.wrap (((cutC (baL a)).length : Int) - 1) = N ∧ ¬ N = -2) (HM : ∀ W u, Ext w W → LnAt W u un → Calls Tryd.prog 135 #[.agg #[.string a, .string b, .string c, u], .int .i64 N] W fun e w' => LnO w' W.heap.size ⟨XA, XB, c, un, 2⟩ e ∧ Ext W w') :
    Calls Tryd.prog 124 #[.agg #[.string a, .string b, .string c, v], .int .i64 6] w fun e w' => LnO w' w.heap.size ⟨XA, XB, c, un, 2⟩ e ∧ Ext w w' := by
  have infoL : (Tryd.prog.info? 46).map (·.size) = some 4 := by kernel_rfl
  have hcA := hide (fun W => l4Cut_any (baL a) (baL_bytes a) W (by rw [baL_len]; omega))
  have hcB := hide (fun W => l4Cut_any (baL b) (baL_bytes b) W (by rw [baL_len]; omega))
  rw [toBA_baL] at hcA hcB
  have lA := cutC_len (baL a)
  have lB := cutC_len (baL b)
  rw [baL_len] at lA lB
  obtain ⟨ao, ca, rfl, _, _⟩ := id hv
  have HMv := hide (fun W (E : Ext w W) => HM W _ E (hv.ext E))
  obtain ⟨hw1, hw2⟩ := hw
  clear hv HM
  obtain ⟨A, hA⟩ : ∃ A, A = cutC (baL a) := ⟨_, rfl⟩
  obtain ⟨B, hB⟩ : ∃ B, B = cutC (baL b) := ⟨_, rfl⟩
  rw [← hA] at hcA lA hw1
  rw [← hB] at hcB lB
  obtain ⟨nA, hnA⟩ : ∃ n, A.length = n := ⟨_, rfl⟩
  obtain ⟨nB, hnB⟩ : ∃ n, B.length = n := ⟨_, rfl⟩
  rw [hnA] at hw1
  have HNA := hide hnA
  have HNB := hide hnB
  clear hA hB hnA hnB
  obtain ⟨V, hV⟩ : ∃ V, V = (w.alloc (.cells #[.string a, .string b, .string c, .slice ao un.length ca] 46)).alloc (.cells #[.string { data := #[] }, .string { data := #[] }, .string { data := #[] }, .slice none 0 0] 46) := ⟨_, rfl⟩
  have E0 : Ext w V := by rw [hV]; exact ((Ext.refl w).alloc _).alloc _
  have HB0 : Hid (V.heap[w.heap.size]? = some (.cells #[.string a, .string b, .string c, .slice ao un.length ca] 46 (0, 0))) := hide (by rw [hV]; exact ((Ext.refl _).alloc _).kept (new_block w _))
  have HB1 : Hid (V.heap[w.heap.size + 1]? = some (.cells #[.string { data := #[] }, .string { data := #[] }, .string { data := #[] }, .slice none 0 0] 46 (0, 0))) := hide (by rw [hV]; have h := new_block (w.alloc (.cells #[.string a, .string b, .string c, .slice ao un.length ca] 46)) (.cells #[.string { data := #[] }, .string { data := #[] }, .string { data := #[] }, .slice none 0 0] 46); rw [show (w.alloc (.cells #[.string a, .string b, .string c, .slice ao un.length ca] 46)).heap.size = w.heap.size + 1 by simp] at h; exact h)
  have sz0 : w.heap.size + 1 < V.heap.size := lt_of_block (unhide HB1)
  have HW := hide hV
  have HE0 := hide E0
  clear hV E0
  go_enter Tryd.func124, Tryd.ntmps124
  go_wp2_with fail
  rw [← unhide HW]
  clear HW
  refine ((unhide hcA) _).mono ?_
  rintro e w2 ⟨v2, rs2, rfl, o2, E2⟩
  obtain ⟨a2, c2, rfl⟩ : ∃ a c, v2 = .slice a A.length c := by
    obtain ⟨_, ao, cc, e, _⟩ := o2.cls
    exact ⟨ao, cc, e⟩
  have H2 := hide o2.cls
  rw [unhide HNA] at H2 ⊢
  replace HB0 := hide (E2.kept (unhide HB0))
  replace HB1 := hide (E2.kept (unhide HB1))
  replace HE0 := hide ((unhide HE0).trans E2)
  have q1 : w2.cell? ⟨w.heap.size, 1, none⟩ = some (.string b) := cells_of (unhide HB0) 1 _ rfl
  have z2 := E2.size
  clear o2 E2 hcA
  go_wp2_with fail
  refine ((unhide hcB) _).mono ?_
  rintro e w3 ⟨v3, rs3, rfl, o3, E3⟩
  obtain ⟨a3, c3, rfl⟩ : ∃ a c, v3 = .slice a B.length c := by
    obtain ⟨_, ao, cc, e, _⟩ := o3.cls
    exact ⟨ao, cc, e⟩
  have H3 := hide o3.cls
  rw [unhide HNB] at H3 ⊢
  replace H2 := hide ((unhide H2).ext E3)
  replace HB0 := hide (E3.kept (unhide HB0))
  replace HB1 := hide (E3.kept (unhide HB1))
  replace HE0 := hide ((unhide HE0).trans E3)
  have z3 := E3.size
  clear o3 E3 hcB q1
  have HMc := hide ((unhide HMv) w3 (unhide HE0))
  clear HMv H2 H3 HNA HNB
  go_wp2_with (first
    | (refine wpList_load_blk rfl 46 _ rfl (w.heap.size) rfl _ _ _ _ (unhide HB0) Tryd.underlying46 rfl infoL ?_))
  refine (unhide HMc).mono ?_
  rintro e w5 ⟨⟨v5, rfl, hl5⟩, E5⟩
  obtain ⟨ua, uc, rfl⟩ : ∃ ua uc, v5 = .slice ua un.length uc := by
    obtain ⟨x, y, e, _⟩ := hl5.reads
    exact ⟨x, y, e⟩
  have HL5 := hide hl5
  replace HB1 := hide (E5.kept (unhide HB1))
  replace HE0 := hide ((unhide HE0).trans E5)
  have HN := hide (heap_alloc_new w5 (.cells #[.string { data := #[] }, .string { data := #[] }, .string { data := #[] }, .slice none 0 0] 46))
  have hz5 : w.heap.size + 1 < w5.heap.size := lt_of_block (unhide HB1)
  clear HMc E5 hl5 HB0
  dsimp only
  go_wp2_with (first
    | (refine wpList_store_blk rfl 46 _ _ rfl rfl (w5.heap.size) rfl _ _ _ rfl (unhide HN) infoL rfl (by simp [Value.oneCell']) ?_; intro U hB hU; have hU1 := hU.ext ((Ext.refl w5).alloc _) (fun q hq => by omega); have HEU := hide hU1; have HBU := hide hB; have HB1s := hide (hU1.kept (unhide HB1)); clear hB hU hU1)
    | (refine wpList_load_blk rfl 46 _ rfl (w5.heap.size) rfl _ _ _ _ (unhide HBU) Tryd.underlying46 rfl infoL ?_)
    | (refine wpList_store_blk rfl 46 _ _ rfl rfl (w.heap.size + 1) rfl _ _ _ rfl (unhide HB1s) infoL rfl (by simp [Value.oneCell']) ?_; intro Z hy hf9; have HY := hide hy; have FY := hide hf9; clear hy hf9))
  have v0 : Z.cell? ⟨w.heap.size + 1, 0, none⟩ = some (.string XA) := cells_of (unhide HY) 0 _ rfl
  have v1 : Z.cell? ⟨w.heap.size + 1, 1, none⟩ = some (.string XB) := cells_of (unhide HY) 1 _ rfl
  have v2 : Z.cell? ⟨w.heap.size + 1, 2, none⟩ = some (.string c) := cells_of (unhide HY) 2 _ rfl
  have v3 : Z.cell? ⟨w.heap.size + 1, 3, none⟩ = some (.slice ua un.length uc) := cells_of (unhide HY) 3 _ rfl
  exact bodyPost_ret (v := .tuple #[.agg #[.string XA, .string XB, .string c, .slice ua un.length uc], .int .i64 2]) (by simp [results, Tryd.results124, go_sem, v0, v1, v2, v3]) rfl ⟨⟨_, rfl, (((unhide HL5).ext (unhide HEU)).fr (unhide FY) (fun g hg e9 => by have := ((unhide HL5).lt g hg).1; omega)).mono (by omega)⟩, (unhide FY).ext ((unhide HE0).trans (unhide HEU)) (fun q hq => by omega)⟩
set_option maxRecDepth 10000 in
set_option maxHeartbeats 8000000 in
theorem l4Moved_6_yes (a b c : ByteArray) (v : Value) (un : List (ByteArray × ByteArray)) (w : World) (hv : LnAt w v un) (za : a.size ≤ 1048576) (zb : b.size ≤ 1048576) (XA XB : ByteArray) (N : Int) (hw : IntKind.i64.wrap (((cutC (baL a)).length : Int) - 1) = N ∧ ¬ N = -2) (HM : ∀ W u, Ext w W → LnAt W u un → Calls Tryd.prog 135 #[.agg #[.string a, .string b, .string c, u], .int .i64 N] W fun e w' => LnO w' W.heap.size ⟨XA, XB, c, un, 1⟩ e ∧ Ext W w') :
    Calls Tryd.prog 124 #[.agg #[.string a, .string b, .string c, v], .int .i64 6] w fun e w' => LnO w' w.heap.size ⟨XA, XB, c, un, 1⟩ e ∧ Ext w w' := by
  have infoL : (Tryd.prog.info? 46).map (·.size) = some 4 := by kernel_rfl
  have hcA := hide (fun W => l4Cut_any (baL a) (baL_bytes a) W (by rw [baL_len]; omega))
  have hcB := hide (fun W => l4Cut_any (baL b) (baL_bytes b) W (by rw [baL_len]; omega))
  rw [toBA_baL] at hcA hcB
  have lA := cutC_len (baL a)
  have lB := cutC_len (baL b)
  rw [baL_len] at lA lB
  obtain ⟨ao, ca, rfl, _, _⟩ := id hv
  have HMv := hide (fun W (E : Ext w W) => HM W _ E (hv.ext E))
  obtain ⟨hw1, hw2⟩ := hw
  clear hv HM
  obtain ⟨A, hA⟩ : ∃ A, A = cutC (baL a) := ⟨_, rfl⟩
  obtain ⟨B, hB⟩ : ∃ B, B = cutC (baL b) := ⟨_, rfl⟩
  rw [← hA] at hcA lA hw1
  rw [← hB] at hcB lB
  obtain ⟨nA, hnA⟩ : ∃ n, A.length = n := ⟨_, rfl⟩
  obtain ⟨nB, hnB⟩ : ∃ n, B.length = n := ⟨_, rfl⟩
  rw [hnA] at hw1
  have HNA := hide hnA
  have HNB := hide hnB
  clear hA hB hnA hnB
  obtain ⟨V, hV⟩ : ∃ V, V = (w.alloc (.cells #[.string a, .string b, .string c, .slice ao un.length ca] 46)).alloc (.cells #[.string { data := #[] }, .string { data := #[] }, .string { data := #[] }, .slice none 0 0] 46) := ⟨_, rfl⟩
  have E0 : Ext w V := by rw [hV]; exact ((Ext.refl w).alloc _).alloc _
  have HB0 : Hid (V.heap[w.heap.size]? = some (.cells #[.string a, .string b, .string c, .slice ao un.length ca] 46 (0, 0))) := hide (by rw [hV]; exact ((Ext.refl _).alloc _).kept (new_block w _))
  have HB1 : Hid (V.heap[w.heap.size + 1]? = some (.cells #[.string { data := #[] }, .string { data := #[] }, .string { data := #[] }, .slice none 0 0] 46 (0, 0))) := hide (by rw [hV]; have h := new_block (w.alloc (.cells #[.string a, .string b, .string c, .slice ao un.length ca] 46)) (.cells #[.string { data := #[] }, .string { data := #[] }, .string { data := #[] }, .slice none 0 0] 46); rw [show (w.alloc (.cells #[.string a, .string b, .string c, .slice ao un.length ca] 46)).heap.size = w.heap.size + 1 by simp] at h; exact h)
  have sz0 : w.heap.size + 1 < V.heap.size := lt_of_block (unhide HB1)
  have HW := hide hV
  have HE0 := hide E0
  clear hV E0
  go_enter Tryd.func124, Tryd.ntmps124
  go_wp2_with fail
  rw [← unhide HW]
  clear HW
  refine ((unhide hcA) _).mono ?_
  rintro e w2 ⟨v2, rs2, rfl, o2, E2⟩
  obtain ⟨a2, c2, rfl⟩ : ∃ a c, v2 = .slice a A.length c := by
    obtain ⟨_, ao, cc, e, _⟩ := o2.cls
    exact ⟨ao, cc, e⟩
  have H2 := hide o2.cls
  rw [unhide HNA] at H2 ⊢
  replace HB0 := hide (E2.kept (unhide HB0))
  replace HB1 := hide (E2.kept (unhide HB1))
  replace HE0 := hide ((unhide HE0).trans E2)
  have q1 : w2.cell? ⟨w.heap.size, 1, none⟩ = some (.string b) := cells_of (unhide HB0) 1 _ rfl
  have z2 := E2.size
  clear o2 E2 hcA
  go_wp2_with fail
  refine ((unhide hcB) _).mono ?_
  rintro e w3 ⟨v3, rs3, rfl, o3, E3⟩
  obtain ⟨a3, c3, rfl⟩ : ∃ a c, v3 = .slice a B.length c := by
    obtain ⟨_, ao, cc, e, _⟩ := o3.cls
    exact ⟨ao, cc, e⟩
  have H3 := hide o3.cls
  rw [unhide HNB] at H3 ⊢
  replace H2 := hide ((unhide H2).ext E3)
  replace HB0 := hide (E3.kept (unhide HB0))
  replace HB1 := hide (E3.kept (unhide HB1))
  replace HE0 := hide ((unhide HE0).trans E3)
  have z3 := E3.size
  clear o3 E3 hcB q1
  have HMc := hide ((unhide HMv) w3 (unhide HE0))
  clear HMv H2 H3 HNA HNB
  go_wp2_with (first
    | (refine wpList_load_blk rfl 46 _ rfl (w.heap.size) rfl _ _ _ _ (unhide HB0) Tryd.underlying46 rfl infoL ?_))
  refine (unhide HMc).mono ?_
  rintro e w5 ⟨⟨v5, rfl, hl5⟩, E5⟩
  obtain ⟨ua, uc, rfl⟩ : ∃ ua uc, v5 = .slice ua un.length uc := by
    obtain ⟨x, y, e, _⟩ := hl5.reads
    exact ⟨x, y, e⟩
  have HL5 := hide hl5
  replace HB1 := hide (E5.kept (unhide HB1))
  replace HE0 := hide ((unhide HE0).trans E5)
  have HN := hide (heap_alloc_new w5 (.cells #[.string { data := #[] }, .string { data := #[] }, .string { data := #[] }, .slice none 0 0] 46))
  have hz5 : w.heap.size + 1 < w5.heap.size := lt_of_block (unhide HB1)
  clear HMc E5 hl5 HB0
  dsimp only
  go_wp2_with (first
    | (refine wpList_store_blk rfl 46 _ _ rfl rfl (w5.heap.size) rfl _ _ _ rfl (unhide HN) infoL rfl (by simp [Value.oneCell']) ?_; intro U hB hU; have hU1 := hU.ext ((Ext.refl w5).alloc _) (fun q hq => by omega); have HEU := hide hU1; have HBU := hide hB; have HB1s := hide (hU1.kept (unhide HB1)); clear hB hU hU1)
    | (refine wpList_load_blk rfl 46 _ rfl (w5.heap.size) rfl _ _ _ _ (unhide HBU) Tryd.underlying46 rfl infoL ?_)
    | (refine wpList_store_blk rfl 46 _ _ rfl rfl (w.heap.size + 1) rfl _ _ _ rfl (unhide HB1s) infoL rfl (by simp [Value.oneCell']) ?_; intro Z hy hf9; have HY := hide hy; have FY := hide hf9; clear hy hf9))
  have v0 : Z.cell? ⟨w.heap.size + 1, 0, none⟩ = some (.string XA) := cells_of (unhide HY) 0 _ rfl
  have v1 : Z.cell? ⟨w.heap.size + 1, 1, none⟩ = some (.string XB) := cells_of (unhide HY) 1 _ rfl
  have v2 : Z.cell? ⟨w.heap.size + 1, 2, none⟩ = some (.string c) := cells_of (unhide HY) 2 _ rfl
  have v3 : Z.cell? ⟨w.heap.size + 1, 3, none⟩ = some (.slice ua un.length uc) := cells_of (unhide HY) 3 _ rfl
  exact bodyPost_ret (v := .tuple #[.agg #[.string XA, .string XB, .string c, .slice ua un.length uc], .int .i64 1]) (by simp [results, Tryd.results124, go_sem, v0, v1, v2, v3]) rfl ⟨⟨_, rfl, (((unhide HL5).ext (unhide HEU)).fr (unhide FY) (fun g hg e9 => by have := ((unhide HL5).lt g hg).1; omega)).mono (by omega)⟩, (unhide FY).ext ((unhide HE0).trans (unhide HEU)) (fun q hq => by omega)⟩
end Go.Proofs.YtbieoijeilhadaaDoor

namespace Go.Proofs.YtbieoijeilhadaaDoor
open Go.RowKit
set_option maxRecDepth 10000 in
set_option maxHeartbeats 8000000 in
theorem l4Moved_7_no (a b c : ByteArray) (v : Value) (un : List (ByteArray × ByteArray)) (w : World) (hv : LnAt w v un) (za : a.size ≤ 1048576) (zb : b.size ≤ 1048576) (XA XB : ByteArray) (N : Int) (hw : IntKind.i64.wrap (((cutC (baL a)).length : Int) + 1) = N ∧ ¬ N = -2) (HM : ∀ W u, Ext w W → LnAt W u un → Calls Tryd.prog 135 #[.agg #[.string a, .string b, .string c, u], .int .i64 N] W fun e w' => LnO w' W.heap.size ⟨XA, XB, c, un, 2⟩ e ∧ Ext W w') :
    Calls Tryd.prog 124 #[.agg #[.string a, .string b, .string c, v], .int .i64 7] w fun e w' => LnO w' w.heap.size ⟨XA, XB, c, un, 2⟩ e ∧ Ext w w' := by
  have infoL : (Tryd.prog.info? 46).map (·.size) = some 4 := by kernel_rfl
  have hcA := hide (fun W => l4Cut_any (baL a) (baL_bytes a) W (by rw [baL_len]; omega))
  have hcB := hide (fun W => l4Cut_any (baL b) (baL_bytes b) W (by rw [baL_len]; omega))
  rw [toBA_baL] at hcA hcB
  have lA := cutC_len (baL a)
  have lB := cutC_len (baL b)
  rw [baL_len] at lA lB
  obtain ⟨ao, ca, rfl, _, _⟩ := id hv
  have HMv := hide (fun W (E : Ext w W) => HM W _ E (hv.ext E))
  obtain ⟨hw1, hw2⟩ := hw
  clear hv HM
  obtain ⟨A, hA⟩ : ∃ A, A = cutC (baL a) := ⟨_, rfl⟩
  obtain ⟨B, hB⟩ : ∃ B, B = cutC (baL b) := ⟨_, rfl⟩
  rw [← hA] at hcA lA hw1
  rw [← hB] at hcB lB
  obtain ⟨nA, hnA⟩ : ∃ n, A.length = n := ⟨_, rfl⟩
  obtain ⟨nB, hnB⟩ : ∃ n, B.length = n := ⟨_, rfl⟩
  rw [hnA] at hw1
  have HNA := hide hnA
  have HNB := hide hnB
  clear hA hB hnA hnB
  obtain ⟨V, hV⟩ : ∃ V, V = (w.alloc (.cells #[.string a, .string b, .string c, .slice ao un.length ca] 46)).alloc (.cells #[.string { data := #[] }, .string { data := #[] }, .string { data := #[] }, .slice none 0 0] 46) := ⟨_, rfl⟩
  have E0 : Ext w V := by rw [hV]; exact ((Ext.refl w).alloc _).alloc _
  have HB0 : Hid (V.heap[w.heap.size]? = some (.cells #[.string a, .string b, .string c, .slice ao un.length ca] 46 (0, 0))) := hide (by rw [hV]; exact ((Ext.refl _).alloc _).kept (new_block w _))
  have HB1 : Hid (V.heap[w.heap.size + 1]? = some (.cells #[.string { data := #[] }, .string { data := #[] }, .string { data := #[] }, .slice none 0 0] 46 (0, 0))) := hide (by rw [hV]; have h := new_block (w.alloc (.cells #[.string a, .string b, .string c, .slice ao un.length ca] 46)) (.cells #[.string { data := #[] }, .string { data := #[] }, .string { data := #[] }, .slice none 0 0] 46); rw [show (w.alloc (.cells #[.string a, .string b, .string c, .slice ao un.length ca] 46)).heap.size = w.heap.size + 1 by simp] at h; exact h)
  have sz0 : w.heap.size + 1 < V.heap.size := lt_of_block (unhide HB1)
  have HW := hide hV
  have HE0 := hide E0
  clear hV E0
  go_enter Tryd.func124, Tryd.ntmps124
  go_wp2_with fail
  rw [← unhide HW]
  clear HW
  refine ((unhide hcA) _).mono ?_
  rintro e w2 ⟨v2, rs2, rfl, o2, E2⟩
  obtain ⟨a2, c2, rfl⟩ : ∃ a c, v2 = .slice a A.length c := by
    obtain ⟨_, ao, cc, e, _⟩ := o2.cls
    exact ⟨ao, cc, e⟩
  have H2 := hide o2.cls
  rw [unhide HNA] at H2 ⊢
  replace HB0 := hide (E2.kept (unhide HB0))
  replace HB1 := hide (E2.kept (unhide HB1))
  replace HE0 := hide ((unhide HE0).trans E2)
  have q1 : w2.cell? ⟨w.heap.size, 1, none⟩ = some (.string b) := cells_of (unhide HB0) 1 _ rfl
  have z2 := E2.size
  clear o2 E2 hcA
  go_wp2_with fail
  refine ((unhide hcB) _).mono ?_
  rintro e w3 ⟨v3, rs3, rfl, o3, E3⟩
  obtain ⟨a3, c3, rfl⟩ : ∃ a c, v3 = .slice a B.length c := by
    obtain ⟨_, ao, cc, e, _⟩ := o3.cls
    exact ⟨ao, cc, e⟩
  have H3 := hide o3.cls
  rw [unhide HNB] at H3 ⊢
  replace H2 := hide ((unhide H2).ext E3)
  replace HB0 := hide (E3.kept (unhide HB0))
  replace HB1 := hide (E3.kept (unhide HB1))
  replace HE0 := hide ((unhide HE0).trans E3)
  have z3 := E3.size
  clear o3 E3 hcB q1
  have HMc := hide ((unhide HMv) w3 (unhide HE0))
  clear HMv H2 H3 HNA HNB
  go_wp2_with (first
    | (refine wpList_load_blk rfl 46 _ rfl (w.heap.size) rfl _ _ _ _ (unhide HB0) Tryd.underlying46 rfl infoL ?_))
  refine (unhide HMc).mono ?_
  rintro e w5 ⟨⟨v5, rfl, hl5⟩, E5⟩
  obtain ⟨ua, uc, rfl⟩ : ∃ ua uc, v5 = .slice ua un.length uc := by
    obtain ⟨x, y, e, _⟩ := hl5.reads
    exact ⟨x, y, e⟩
  have HL5 := hide hl5
  replace HB1 := hide (E5.kept (unhide HB1))
  replace HE0 := hide ((unhide HE0).trans E5)
  have HN := hide (heap_alloc_new w5 (.cells #[.string { data := #[] }, .string { data := #[] }, .string { data := #[] }, .slice none 0 0] 46))
  have hz5 : w.heap.size + 1 < w5.heap.size := lt_of_block (unhide HB1)
  clear HMc E5 hl5 HB0
  dsimp only
  go_wp2_with (first
    | (refine wpList_store_blk rfl 46 _ _ rfl rfl (w5.heap.size) rfl _ _ _ rfl (unhide HN) infoL rfl (by simp [Value.oneCell']) ?_; intro U hB hU; have hU1 := hU.ext ((Ext.refl w5).alloc _) (fun q hq => by omega); have HEU := hide hU1; have HBU := hide hB; have HB1s := hide (hU1.kept (unhide HB1)); clear hB hU hU1)
    | (refine wpList_load_blk rfl 46 _ rfl (w5.heap.size) rfl _ _ _ _ (unhide HBU) Tryd.underlying46 rfl infoL ?_)
    | (refine wpList_store_blk rfl 46 _ _ rfl rfl (w.heap.size + 1) rfl _ _ _ rfl (unhide HB1s) infoL rfl (by simp [Value.oneCell']) ?_; intro Z hy hf9; have HY := hide hy; have FY := hide hf9; clear hy hf9))
  have v0 : Z.cell? ⟨w.heap.size + 1, 0, none⟩ = some (.string XA) := cells_of (unhide HY) 0 _ rfl
  have v1 : Z.cell? ⟨w.heap.size + 1, 1, none⟩ = some (.string XB) := cells_of (unhide HY) 1 _ rfl
  have v2 : Z.cell? ⟨w.heap.size + 1, 2, none⟩ = some (.string c) := cells_of (unhide HY) 2 _ rfl
  have v3 : Z.cell? ⟨w.heap.size + 1, 3, none⟩ = some (.slice ua un.length uc) := cells_of (unhide HY) 3 _ rfl
  exact bodyPost_ret (v := .tuple #[.agg #[.string XA, .string XB, .string c, .slice ua un.length uc], .int .i64 2]) (by simp [results, Tryd.results124, go_sem, v0, v1, v2, v3]) rfl ⟨⟨_, rfl, (((unhide HL5).ext (unhide HEU)).fr (unhide FY) (fun g hg e9 => by have := ((unhide HL5).lt g hg).1; omega)).mono (by omega)⟩, (unhide FY).ext ((unhide HE0).trans (unhide HEU)) (fun q hq => by omega)⟩
set_option maxRecDepth 10000 in
set_option maxHeartbeats 8000000 in
theorem l4Moved_7_yes (a b c : ByteArray) (v : Value) (un : List (ByteArray × ByteArray)) (w : World) (hv : LnAt w v un) (za : a.size ≤ 1048576) (zb : b.size ≤ 1048576) (XA XB : ByteArray) (N : Int) (hw : IntKind.i64.wrap (((cutC (baL a)).length : Int) + 1) = N ∧ ¬ N = -2) (HM : ∀ W u, Ext w W → LnAt W u un → Calls Tryd.prog 135 #[.agg #[.string a, .string b, .string c, u], .int .i64 N] W fun e w' => LnO w' W.heap.size ⟨XA, XB, c, un, 1⟩ e ∧ Ext W w') :
    Calls Tryd.prog 124 #[.agg #[.string a, .string b, .string c, v], .int .i64 7] w fun e w' => LnO w' w.heap.size ⟨XA, XB, c, un, 1⟩ e ∧ Ext w w' := by
  have infoL : (Tryd.prog.info? 46).map (·.size) = some 4 := by kernel_rfl
  have hcA := hide (fun W => l4Cut_any (baL a) (baL_bytes a) W (by rw [baL_len]; omega))
  have hcB := hide (fun W => l4Cut_any (baL b) (baL_bytes b) W (by rw [baL_len]; omega))
  rw [toBA_baL] at hcA hcB
  have lA := cutC_len (baL a)
  have lB := cutC_len (baL b)
  rw [baL_len] at lA lB
  obtain ⟨ao, ca, rfl, _, _⟩ := id hv
  have HMv := hide (fun W (E : Ext w W) => HM W _ E (hv.ext E))
  obtain ⟨hw1, hw2⟩ := hw
  clear hv HM
  obtain ⟨A, hA⟩ : ∃ A, A = cutC (baL a) := ⟨_, rfl⟩
  obtain ⟨B, hB⟩ : ∃ B, B = cutC (baL b) := ⟨_, rfl⟩
  rw [← hA] at hcA lA hw1
  rw [← hB] at hcB lB
  obtain ⟨nA, hnA⟩ : ∃ n, A.length = n := ⟨_, rfl⟩
  obtain ⟨nB, hnB⟩ : ∃ n, B.length = n := ⟨_, rfl⟩
  rw [hnA] at hw1
  have HNA := hide hnA
  have HNB := hide hnB
  clear hA hB hnA hnB
  obtain ⟨V, hV⟩ : ∃ V, V = (w.alloc (.cells #[.string a, .string b, .string c, .slice ao un.length ca] 46)).alloc (.cells #[.string { data := #[] }, .string { data := #[] }, .string { data := #[] }, .slice none 0 0] 46) := ⟨_, rfl⟩
  have E0 : Ext w V := by rw [hV]; exact ((Ext.refl w).alloc _).alloc _
  have HB0 : Hid (V.heap[w.heap.size]? = some (.cells #[.string a, .string b, .string c, .slice ao un.length ca] 46 (0, 0))) := hide (by rw [hV]; exact ((Ext.refl _).alloc _).kept (new_block w _))
  have HB1 : Hid (V.heap[w.heap.size + 1]? = some (.cells #[.string { data := #[] }, .string { data := #[] }, .string { data := #[] }, .slice none 0 0] 46 (0, 0))) := hide (by rw [hV]; have h := new_block (w.alloc (.cells #[.string a, .string b, .string c, .slice ao un.length ca] 46)) (.cells #[.string { data := #[] }, .string { data := #[] }, .string { data := #[] }, .slice none 0 0] 46); rw [show (w.alloc (.cells #[.string a, .string b, .string c, .slice ao un.length ca] 46)).heap.size = w.heap.size + 1 by simp] at h; exact h)
  have sz0 : w.heap.size + 1 < V.heap.size := lt_of_block (unhide HB1)
  have HW := hide hV
  have HE0 := hide E0
  clear hV E0
  go_enter Tryd.func124, Tryd.ntmps124
  go_wp2_with fail
  rw [← unhide HW]
  clear HW
  refine ((unhide hcA) _).mono ?_
  rintro e w2 ⟨v2, rs2, rfl, o2, E2⟩
  obtain ⟨a2, c2, rfl⟩ : ∃ a c, v2 = .slice a A.length c := by
    obtain ⟨_, ao, cc, e, _⟩ := o2.cls
    exact ⟨ao, cc, e⟩
  have H2 := hide o2.cls
  rw [unhide HNA] at H2 ⊢
  replace HB0 := hide (E2.kept (unhide HB0))
  replace HB1 := hide (E2.kept (unhide HB1))
  replace HE0 := hide ((unhide HE0).trans E2)
  have q1 : w2.cell? ⟨w.heap.size, 1, none⟩ = some (.string b) := cells_of (unhide HB0) 1 _ rfl
  have z2 := E2.size
  clear o2 E2 hcA
  go_wp2_with fail
  refine ((unhide hcB) _).mono ?_
  rintro e w3 ⟨v3, rs3, rfl, o3, E3⟩
  obtain ⟨a3, c3, rfl⟩ : ∃ a c, v3 = .slice a B.length c := by
    obtain ⟨_, ao, cc, e, _⟩ := o3.cls
    exact ⟨ao, cc, e⟩
  have H3 := hide o3.cls
  rw [unhide HNB] at H3 ⊢
  replace H2 := hide ((unhide H2).ext E3)
  replace HB0 := hide (E3.kept (unhide HB0))
  replace HB1 := hide (E3.kept (unhide HB1))
  replace HE0 := hide ((unhide HE0).trans E3)
  have z3 := E3.size
  clear o3 E3 hcB q1
  have HMc := hide ((unhide HMv) w3 (unhide HE0))
  clear HMv H2 H3 HNA HNB
  go_wp2_with (first
    | (refine wpList_load_blk rfl 46 _ rfl (w.heap.size) rfl _ _ _ _ (unhide HB0) Tryd.underlying46 rfl infoL ?_))
  refine (unhide HMc).mono ?_
  rintro e w5 ⟨⟨v5, rfl, hl5⟩, E5⟩
  obtain ⟨ua, uc, rfl⟩ : ∃ ua uc, v5 = .slice ua un.length uc := by
    obtain ⟨x, y, e, _⟩ := hl5.reads
    exact ⟨x, y, e⟩
  have HL5 := hide hl5
  replace HB1 := hide (E5.kept (unhide HB1))
  replace HE0 := hide ((unhide HE0).trans E5)
  have HN := hide (heap_alloc_new w5 (.cells #[.string { data := #[] }, .string { data := #[] }, .string { data := #[] }, .slice none 0 0] 46))
  have hz5 : w.heap.size + 1 < w5.heap.size := lt_of_block (unhide HB1)
  clear HMc E5 hl5 HB0
  dsimp only
  go_wp2_with (first
    | (refine wpList_store_blk rfl 46 _ _ rfl rfl (w5.heap.size) rfl _ _ _ rfl (unhide HN) infoL rfl (by simp [Value.oneCell']) ?_; intro U hB hU; have hU1 := hU.ext ((Ext.refl w5).alloc _) (fun q hq => by omega); have HEU := hide hU1; have HBU := hide hB; have HB1s := hide (hU1.kept (unhide HB1)); clear hB hU hU1)
    | (refine wpList_load_blk rfl 46 _ rfl (w5.heap.size) rfl _ _ _ _ (unhide HBU) Tryd.underlying46 rfl infoL ?_)
    | (refine wpList_store_blk rfl 46 _ _ rfl rfl (w.heap.size + 1) rfl _ _ _ rfl (unhide HB1s) infoL rfl (by simp [Value.oneCell']) ?_; intro Z hy hf9; have HY := hide hy; have FY := hide hf9; clear hy hf9))
  have v0 : Z.cell? ⟨w.heap.size + 1, 0, none⟩ = some (.string XA) := cells_of (unhide HY) 0 _ rfl
  have v1 : Z.cell? ⟨w.heap.size + 1, 1, none⟩ = some (.string XB) := cells_of (unhide HY) 1 _ rfl
  have v2 : Z.cell? ⟨w.heap.size + 1, 2, none⟩ = some (.string c) := cells_of (unhide HY) 2 _ rfl
  have v3 : Z.cell? ⟨w.heap.size + 1, 3, none⟩ = some (.slice ua un.length uc) := cells_of (unhide HY) 3 _ rfl
  exact bodyPost_ret (v := .tuple #[.agg #[.string XA, .string XB, .string c, .slice ua un.length uc], .int .i64 1]) (by simp [results, Tryd.results124, go_sem, v0, v1, v2, v3]) rfl ⟨⟨_, rfl, (((unhide HL5).ext (unhide HEU)).fr (unhide FY) (fun g hg e9 => by have := ((unhide HL5).lt g hg).1; omega)).mono (by omega)⟩, (unhide FY).ext ((unhide HE0).trans (unhide HEU)) (fun q hq => by omega)⟩
end Go.Proofs.YtbieoijeilhadaaDoor

namespace Go.Proofs.YtbieoijeilhadaaDoor
open Go.RowKit
set_option maxRecDepth 10000 in
set_option maxHeartbeats 8000000 in
theorem l4Moved_8_no (a b c : ByteArray) (v : Value) (un : List (ByteArray × ByteArray)) (w : World) (hv : LnAt w v un) (za : a.size ≤ 1048576) (zb : b.size ≤ 1048576) (XA XB : ByteArray) (HM : ∀ W u, Ext w W → LnAt W u un → Calls Tryd.prog 135 #[.agg #[.string a, .string b, .string c, u], .int .i64 0] W fun e w' => LnO w' W.heap.size ⟨XA, XB, c, un, 2⟩ e ∧ Ext W w') :
    Calls Tryd.prog 124 #[.agg #[.string a, .string b, .string c, v], .int .i64 8] w fun e w' => LnO w' w.heap.size ⟨XA, XB, c, un, 0⟩ e ∧ Ext w w' := by
  have infoL : (Tryd.prog.info? 46).map (·.size) = some 4 := by kernel_rfl
  have hcA := hide (fun W => l4Cut_any (baL a) (baL_bytes a) W (by rw [baL_len]; omega))
  have hcB := hide (fun W => l4Cut_any (baL b) (baL_bytes b) W (by rw [baL_len]; omega))
  rw [toBA_baL] at hcA hcB
  have lA := cutC_len (baL a)
  have lB := cutC_len (baL b)
  rw [baL_len] at lA lB
  obtain ⟨ao, ca, rfl, _, _⟩ := id hv
  have HMv := hide (fun W (E : Ext w W) => HM W _ E (hv.ext E))
  clear hv HM
  obtain ⟨A, hA⟩ : ∃ A, A = cutC (baL a) := ⟨_, rfl⟩
  obtain ⟨B, hB⟩ : ∃ B, B = cutC (baL b) := ⟨_, rfl⟩
  rw [← hA] at hcA lA
  rw [← hB] at hcB lB
  obtain ⟨nA, hnA⟩ : ∃ n, A.length = n := ⟨_, rfl⟩
  obtain ⟨nB, hnB⟩ : ∃ n, B.length = n := ⟨_, rfl⟩
  have HNA := hide hnA
  have HNB := hide hnB
  clear hA hB hnA hnB
  obtain ⟨V, hV⟩ : ∃ V, V = (w.alloc (.cells #[.string a, .string b, .string c, .slice ao un.length ca] 46)).alloc (.cells #[.string { data := #[] }, .string { data := #[] }, .string { data := #[] }, .slice none 0 0] 46) := ⟨_, rfl⟩
  have E0 : Ext w V := by rw [hV]; exact ((Ext.refl w).alloc _).alloc _
  have HB0 : Hid (V.heap[w.heap.size]? = some (.cells #[.string a, .string b, .string c, .slice ao un.length ca] 46 (0, 0))) := hide (by rw [hV]; exact ((Ext.refl _).alloc _).kept (new_block w _))
  have HB1 : Hid (V.heap[w.heap.size + 1]? = some (.cells #[.string { data := #[] }, .string { data := #[] }, .string { data := #[] }, .slice none 0 0] 46 (0, 0))) := hide (by rw [hV]; have h := new_block (w.alloc (.cells #[.string a, .string b, .string c, .slice ao un.length ca] 46)) (.cells #[.string { data := #[] }, .string { data := #[] }, .string { data := #[] }, .slice none 0 0] 46); rw [show (w.alloc (.cells #[.string a, .string b, .string c, .slice ao un.length ca] 46)).heap.size = w.heap.size + 1 by simp] at h; exact h)
  have sz0 : w.heap.size + 1 < V.heap.size := lt_of_block (unhide HB1)
  have HW := hide hV
  have HE0 := hide E0
  clear hV E0
  go_enter Tryd.func124, Tryd.ntmps124
  go_wp2_with fail
  rw [← unhide HW]
  clear HW
  refine ((unhide hcA) _).mono ?_
  rintro e w2 ⟨v2, rs2, rfl, o2, E2⟩
  obtain ⟨a2, c2, rfl⟩ : ∃ a c, v2 = .slice a A.length c := by
    obtain ⟨_, ao, cc, e, _⟩ := o2.cls
    exact ⟨ao, cc, e⟩
  have H2 := hide o2.cls
  rw [unhide HNA] at H2 ⊢
  replace HB0 := hide (E2.kept (unhide HB0))
  replace HB1 := hide (E2.kept (unhide HB1))
  replace HE0 := hide ((unhide HE0).trans E2)
  have q1 : w2.cell? ⟨w.heap.size, 1, none⟩ = some (.string b) := cells_of (unhide HB0) 1 _ rfl
  have z2 := E2.size
  clear o2 E2 hcA
  go_wp2_with fail
  refine ((unhide hcB) _).mono ?_
  rintro e w3 ⟨v3, rs3, rfl, o3, E3⟩
  obtain ⟨a3, c3, rfl⟩ : ∃ a c, v3 = .slice a B.length c := by
    obtain ⟨_, ao, cc, e, _⟩ := o3.cls
    exact ⟨ao, cc, e⟩
  have H3 := hide o3.cls
  rw [unhide HNB] at H3 ⊢
  replace H2 := hide ((unhide H2).ext E3)
  replace HB0 := hide (E3.kept (unhide HB0))
  replace HB1 := hide (E3.kept (unhide HB1))
  replace HE0 := hide ((unhide HE0).trans E3)
  have z3 := E3.size
  clear o3 E3 hcB q1
  have HMc := hide ((unhide HMv) w3 (unhide HE0))
  clear HMv H2 H3 HNA HNB
  go_wp2_with (first
    | (refine wpList_load_blk rfl 46 _ rfl (w.heap.size) rfl _ _ _ _ (unhide HB0) Tryd.underlying46 rfl infoL ?_))
  refine (unhide HMc).mono ?_
  rintro e w5 ⟨⟨v5, rfl, hl5⟩, E5⟩
  obtain ⟨ua, uc, rfl⟩ : ∃ ua uc, v5 = .slice ua un.length uc := by
    obtain ⟨x, y, e, _⟩ := hl5.reads
    exact ⟨x, y, e⟩
  have HL5 := hide hl5
  replace HB1 := hide (E5.kept (unhide HB1))
  replace HE0 := hide ((unhide HE0).trans E5)
  have HN := hide (heap_alloc_new w5 (.cells #[.string { data := #[] }, .string { data := #[] }, .string { data := #[] }, .slice none 0 0] 46))
  have hz5 : w.heap.size + 1 < w5.heap.size := lt_of_block (unhide HB1)
  clear HMc E5 hl5 HB0
  dsimp only
  go_wp2_with (first
    | (refine wpList_store_blk rfl 46 _ _ rfl rfl (w5.heap.size) rfl _ _ _ rfl (unhide HN) infoL rfl (by simp [Value.oneCell']) ?_; intro U hB hU; have hU1 := hU.ext ((Ext.refl w5).alloc _) (fun q hq => by omega); have HEU := hide hU1; have HBU := hide hB; have HB1s := hide (hU1.kept (unhide HB1)); clear hB hU hU1)
    | (refine wpList_load_blk rfl 46 _ rfl (w5.heap.size) rfl _ _ _ _ (unhide HBU) Tryd.underlying46 rfl infoL ?_)
    | (refine wpList_store_blk rfl 46 _ _ rfl rfl (w.heap.size + 1) rfl _ _ _ rfl (unhide HB1s) infoL rfl (by simp [Value.oneCell']) ?_; intro Z hy hf9; have HY := hide hy; have FY := hide hf9; clear hy hf9))
  have v0 : Z.cell? ⟨w.heap.size + 1, 0, none⟩ = some (.string XA) := cells_of (unhide HY) 0 _ rfl
  have v1 : Z.cell? ⟨w.heap.size + 1, 1, none⟩ = some (.string XB) := cells_of (unhide HY) 1 _ rfl
  have v2 : Z.cell? ⟨w.heap.size + 1, 2, none⟩ = some (.string c) := cells_of (unhide HY) 2 _ rfl
  have v3 : Z.cell? ⟨w.heap.size + 1, 3, none⟩ = some (.slice ua un.length uc) := cells_of (unhide HY) 3 _ rfl
  exact bodyPost_ret (v := .tuple #[.agg #[.string XA, .string XB, .string c, .slice ua un.length uc], .int .i64 0]) (by simp [results, Tryd.results124, go_sem, v0, v1, v2, v3]) rfl ⟨⟨_, rfl, (((unhide HL5).ext (unhide HEU)).fr (unhide FY) (fun g hg e9 => by have := ((unhide HL5).lt g hg).1; omega)).mono (by omega)⟩, (unhide FY).ext ((unhide HE0).trans (unhide HEU)) (fun q hq => by omega)⟩
set_option maxRecDepth 10000 in
set_option maxHeartbeats 8000000 in
theorem l4Moved_8_yes (a b c : ByteArray) (v : Value) (un : List (ByteArray × ByteArray)) (w : World) (hv : LnAt w v un) (za : a.size ≤ 1048576) (zb : b.size ≤ 1048576) (XA XB : ByteArray) (HM : ∀ W u, Ext w W → LnAt W u un → Calls Tryd.prog 135 #[.agg #[.string a, .string b, .string c, u], .int .i64 0] W fun e w' => LnO w' W.heap.size ⟨XA, XB, c, un, 1⟩ e ∧ Ext W w') :
    Calls Tryd.prog 124 #[.agg #[.string a, .string b, .string c, v], .int .i64 8] w fun e w' => LnO w' w.heap.size ⟨XA, XB, c, un, 1⟩ e ∧ Ext w w' := by
  have infoL : (Tryd.prog.info? 46).map (·.size) = some 4 := by kernel_rfl
  have hcA := hide (fun W => l4Cut_any (baL a) (baL_bytes a) W (by rw [baL_len]; omega))
  have hcB := hide (fun W => l4Cut_any (baL b) (baL_bytes b) W (by rw [baL_len]; omega))
  rw [toBA_baL] at hcA hcB
  have lA := cutC_len (baL a)
  have lB := cutC_len (baL b)
  rw [baL_len] at lA lB
  obtain ⟨ao, ca, rfl, _, _⟩ := id hv
  have HMv := hide (fun W (E : Ext w W) => HM W _ E (hv.ext E))
  clear hv HM
  obtain ⟨A, hA⟩ : ∃ A, A = cutC (baL a) := ⟨_, rfl⟩
  obtain ⟨B, hB⟩ : ∃ B, B = cutC (baL b) := ⟨_, rfl⟩
  rw [← hA] at hcA lA
  rw [← hB] at hcB lB
  obtain ⟨nA, hnA⟩ : ∃ n, A.length = n := ⟨_, rfl⟩
  obtain ⟨nB, hnB⟩ : ∃ n, B.length = n := ⟨_, rfl⟩
  have HNA := hide hnA
  have HNB := hide hnB
  clear hA hB hnA hnB
  obtain ⟨V, hV⟩ : ∃ V, V = (w.alloc (.cells #[.string a, .string b, .string c, .slice ao un.length ca] 46)).alloc (.cells #[.string { data := #[] }, .string { data := #[] }, .string { data := #[] }, .slice none 0 0] 46) := ⟨_, rfl⟩
  have E0 : Ext w V := by rw [hV]; exact ((Ext.refl w).alloc _).alloc _
  have HB0 : Hid (V.heap[w.heap.size]? = some (.cells #[.string a, .string b, .string c, .slice ao un.length ca] 46 (0, 0))) := hide (by rw [hV]; exact ((Ext.refl _).alloc _).kept (new_block w _))
  have HB1 : Hid (V.heap[w.heap.size + 1]? = some (.cells #[.string { data := #[] }, .string { data := #[] }, .string { data := #[] }, .slice none 0 0] 46 (0, 0))) := hide (by rw [hV]; have h := new_block (w.alloc (.cells #[.string a, .string b, .string c, .slice ao un.length ca] 46)) (.cells #[.string { data := #[] }, .string { data := #[] }, .string { data := #[] }, .slice none 0 0] 46); rw [show (w.alloc (.cells #[.string a, .string b, .string c, .slice ao un.length ca] 46)).heap.size = w.heap.size + 1 by simp] at h; exact h)
  have sz0 : w.heap.size + 1 < V.heap.size := lt_of_block (unhide HB1)
  have HW := hide hV
  have HE0 := hide E0
  clear hV E0
  go_enter Tryd.func124, Tryd.ntmps124
  go_wp2_with fail
  rw [← unhide HW]
  clear HW
  refine ((unhide hcA) _).mono ?_
  rintro e w2 ⟨v2, rs2, rfl, o2, E2⟩
  obtain ⟨a2, c2, rfl⟩ : ∃ a c, v2 = .slice a A.length c := by
    obtain ⟨_, ao, cc, e, _⟩ := o2.cls
    exact ⟨ao, cc, e⟩
  have H2 := hide o2.cls
  rw [unhide HNA] at H2 ⊢
  replace HB0 := hide (E2.kept (unhide HB0))
  replace HB1 := hide (E2.kept (unhide HB1))
  replace HE0 := hide ((unhide HE0).trans E2)
  have q1 : w2.cell? ⟨w.heap.size, 1, none⟩ = some (.string b) := cells_of (unhide HB0) 1 _ rfl
  have z2 := E2.size
  clear o2 E2 hcA
  go_wp2_with fail
  refine ((unhide hcB) _).mono ?_
  rintro e w3 ⟨v3, rs3, rfl, o3, E3⟩
  obtain ⟨a3, c3, rfl⟩ : ∃ a c, v3 = .slice a B.length c := by
    obtain ⟨_, ao, cc, e, _⟩ := o3.cls
    exact ⟨ao, cc, e⟩
  have H3 := hide o3.cls
  rw [unhide HNB] at H3 ⊢
  replace H2 := hide ((unhide H2).ext E3)
  replace HB0 := hide (E3.kept (unhide HB0))
  replace HB1 := hide (E3.kept (unhide HB1))
  replace HE0 := hide ((unhide HE0).trans E3)
  have z3 := E3.size
  clear o3 E3 hcB q1
  have HMc := hide ((unhide HMv) w3 (unhide HE0))
  clear HMv H2 H3 HNA HNB
  go_wp2_with (first
    | (refine wpList_load_blk rfl 46 _ rfl (w.heap.size) rfl _ _ _ _ (unhide HB0) Tryd.underlying46 rfl infoL ?_))
  refine (unhide HMc).mono ?_
  rintro e w5 ⟨⟨v5, rfl, hl5⟩, E5⟩
  obtain ⟨ua, uc, rfl⟩ : ∃ ua uc, v5 = .slice ua un.length uc := by
    obtain ⟨x, y, e, _⟩ := hl5.reads
    exact ⟨x, y, e⟩
  have HL5 := hide hl5
  replace HB1 := hide (E5.kept (unhide HB1))
  replace HE0 := hide ((unhide HE0).trans E5)
  have HN := hide (heap_alloc_new w5 (.cells #[.string { data := #[] }, .string { data := #[] }, .string { data := #[] }, .slice none 0 0] 46))
  have hz5 : w.heap.size + 1 < w5.heap.size := lt_of_block (unhide HB1)
  clear HMc E5 hl5 HB0
  dsimp only
  go_wp2_with (first
    | (refine wpList_store_blk rfl 46 _ _ rfl rfl (w5.heap.size) rfl _ _ _ rfl (unhide HN) infoL rfl (by simp [Value.oneCell']) ?_; intro U hB hU; have hU1 := hU.ext ((Ext.refl w5).alloc _) (fun q hq => by omega); have HEU := hide hU1; have HBU := hide hB; have HB1s := hide (hU1.kept (unhide HB1)); clear hB hU hU1)
    | (refine wpList_load_blk rfl 46 _ rfl (w5.heap.size) rfl _ _ _ _ (unhide HBU) Tryd.underlying46 rfl infoL ?_)
    | (refine wpList_store_blk rfl 46 _ _ rfl rfl (w.heap.size + 1) rfl _ _ _ rfl (unhide HB1s) infoL rfl (by simp [Value.oneCell']) ?_; intro Z hy hf9; have HY := hide hy; have FY := hide hf9; clear hy hf9))
  have v0 : Z.cell? ⟨w.heap.size + 1, 0, none⟩ = some (.string XA) := cells_of (unhide HY) 0 _ rfl
  have v1 : Z.cell? ⟨w.heap.size + 1, 1, none⟩ = some (.string XB) := cells_of (unhide HY) 1 _ rfl
  have v2 : Z.cell? ⟨w.heap.size + 1, 2, none⟩ = some (.string c) := cells_of (unhide HY) 2 _ rfl
  have v3 : Z.cell? ⟨w.heap.size + 1, 3, none⟩ = some (.slice ua un.length uc) := cells_of (unhide HY) 3 _ rfl
  exact bodyPost_ret (v := .tuple #[.agg #[.string XA, .string XB, .string c, .slice ua un.length uc], .int .i64 1]) (by simp [results, Tryd.results124, go_sem, v0, v1, v2, v3]) rfl ⟨⟨_, rfl, (((unhide HL5).ext (unhide HEU)).fr (unhide FY) (fun g hg e9 => by have := ((unhide HL5).lt g hg).1; omega)).mono (by omega)⟩, (unhide FY).ext ((unhide HE0).trans (unhide HEU)) (fun q hq => by omega)⟩
end Go.Proofs.YtbieoijeilhadaaDoor

namespace Go.Proofs.YtbieoijeilhadaaDoor
open Go.RowKit
set_option maxRecDepth 10000 in
set_option maxHeartbeats 8000000 in
theorem l4Moved_9_no (a b c : ByteArray) (v : Value) (un : List (ByteArray × ByteArray)) (w : World) (hv : LnAt w v un) (za : a.size ≤ 1048576) (zb : b.size ≤ 1048576) (XA XB : ByteArray) (N : Int) (hw : IntKind.i64.wrap (((cutC (baL a)).length : Int) + ((cutC (baL b)).length : Int)) = N ∧ ¬ N = -2) (HM : ∀ W u, Ext w W → LnAt W u un → Calls Tryd.prog 135 #[.agg #[.string a, .string b, .string c, u], .int .i64 N] W fun e w' => LnO w' W.heap.size ⟨XA, XB, c, un, 2⟩ e ∧ Ext W w') :
    Calls Tryd.prog 124 #[.agg #[.string a, .string b, .string c, v], .int .i64 9] w fun e w' => LnO w' w.heap.size ⟨XA, XB, c, un, 0⟩ e ∧ Ext w w' := by
  have infoL : (Tryd.prog.info? 46).map (·.size) = some 4 := by kernel_rfl
  have hcA := hide (fun W => l4Cut_any (baL a) (baL_bytes a) W (by rw [baL_len]; omega))
  have hcB := hide (fun W => l4Cut_any (baL b) (baL_bytes b) W (by rw [baL_len]; omega))
  rw [toBA_baL] at hcA hcB
  have lA := cutC_len (baL a)
  have lB := cutC_len (baL b)
  rw [baL_len] at lA lB
  obtain ⟨ao, ca, rfl, _, _⟩ := id hv
  have HMv := hide (fun W (E : Ext w W) => HM W _ E (hv.ext E))
  obtain ⟨hw1, hw2⟩ := hw
  clear hv HM
  obtain ⟨A, hA⟩ : ∃ A, A = cutC (baL a) := ⟨_, rfl⟩
  obtain ⟨B, hB⟩ : ∃ B, B = cutC (baL b) := ⟨_, rfl⟩
  rw [← hA] at hcA lA hw1
  rw [← hB] at hcB lB hw1
  obtain ⟨nA, hnA⟩ : ∃ n, A.length = n := ⟨_, rfl⟩
  obtain ⟨nB, hnB⟩ : ∃ n, B.length = n := ⟨_, rfl⟩
  rw [hnA] at hw1
  rw [hnB] at hw1
  have HNA := hide hnA
  have HNB := hide hnB
  clear hA hB hnA hnB
  obtain ⟨V, hV⟩ : ∃ V, V = (w.alloc (.cells #[.string a, .string b, .string c, .slice ao un.length ca] 46)).alloc (.cells #[.string { data := #[] }, .string { data := #[] }, .string { data := #[] }, .slice none 0 0] 46) := ⟨_, rfl⟩
  have E0 : Ext w V := by rw [hV]; exact ((Ext.refl w).alloc _).alloc _
  have HB0 : Hid (V.heap[w.heap.size]? = some (.cells #[.string a, .string b, .string c, .slice ao un.length ca] 46 (0, 0))) := hide (by rw [hV]; exact ((Ext.refl _).alloc _).kept (new_block w _))
  have HB1 : Hid (V.heap[w.heap.size + 1]? = some (.cells #[.string { data := #[] }, .string { data := #[] }, .string { data := #[] }, .slice none 0 0] 46 (0, 0))) := hide (by rw [hV]; have h := new_block (w.alloc (.cells #[.string a, .string b, .string c, .slice ao un.length ca] 46)) (.cells #[.string { data := #[] }, .string { data := #[] }, .string { data := #[] }, .slice none 0 0] 46); rw [show (w.alloc (.cells #[.string a, .string b, .string c, .slice ao un.length ca] 46)).heap.size = w.heap.size + 1 by simp] at h; exact h)
  have sz0 : w.heap.size + 1 < V.heap.size := lt_of_block (unhide HB1)
  have HW := hide hV
  have HE0 := hide E0
  clear hV E0
  go_enter Tryd.func124, Tryd.ntmps124
  go_wp2_with fail
  rw [← unhide HW]
  clear HW
  refine ((unhide hcA) _).mono ?_
  rintro e w2 ⟨v2, rs2, rfl, o2, E2⟩
  obtain ⟨a2, c2, rfl⟩ : ∃ a c, v2 = .slice a A.length c := by
    obtain ⟨_, ao, cc, e, _⟩ := o2.cls
    exact ⟨ao, cc, e⟩
  have H2 := hide o2.cls
  rw [unhide HNA] at H2 ⊢
  replace HB0 := hide (E2.kept (unhide HB0))
  replace HB1 := hide (E2.kept (unhide HB1))
  replace HE0 := hide ((unhide HE0).trans E2)
  have q1 : w2.cell? ⟨w.heap.size, 1, none⟩ = some (.string b) := cells_of (unhide HB0) 1 _ rfl
  have z2 := E2.size
  clear o2 E2 hcA
  go_wp2_with fail
  refine ((unhide hcB) _).mono ?_
  rintro e w3 ⟨v3, rs3, rfl, o3, E3⟩
  obtain ⟨a3, c3, rfl⟩ : ∃ a c, v3 = .slice a B.length c := by
    obtain ⟨_, ao, cc, e, _⟩ := o3.cls
    exact ⟨ao, cc, e⟩
  have H3 := hide o3.cls
  rw [unhide HNB] at H3 ⊢
  replace H2 := hide ((unhide H2).ext E3)
  replace HB0 := hide (E3.kept (unhide HB0))
  replace HB1 := hide (E3.kept (unhide HB1))
  replace HE0 := hide ((unhide HE0).trans E3)
  have z3 := E3.size
  clear o3 E3 hcB q1
  have HMc := hide ((unhide HMv) w3 (unhide HE0))
  clear HMv H2 H3 HNA HNB
  go_wp2_with (first
    | (refine wpList_load_blk rfl 46 _ rfl (w.heap.size) rfl _ _ _ _ (unhide HB0) Tryd.underlying46 rfl infoL ?_))
  refine (unhide HMc).mono ?_
  rintro e w5 ⟨⟨v5, rfl, hl5⟩, E5⟩
  obtain ⟨ua, uc, rfl⟩ : ∃ ua uc, v5 = .slice ua un.length uc := by
    obtain ⟨x, y, e, _⟩ := hl5.reads
    exact ⟨x, y, e⟩
  have HL5 := hide hl5
  replace HB1 := hide (E5.kept (unhide HB1))
  replace HE0 := hide ((unhide HE0).trans E5)
  have HN := hide (heap_alloc_new w5 (.cells #[.string { data := #[] }, .string { data := #[] }, .string { data := #[] }, .slice none 0 0] 46))
  have hz5 : w.heap.size + 1 < w5.heap.size := lt_of_block (unhide HB1)
  clear HMc E5 hl5 HB0
  dsimp only
  go_wp2_with (first
    | (refine wpList_store_blk rfl 46 _ _ rfl rfl (w5.heap.size) rfl _ _ _ rfl (unhide HN) infoL rfl (by simp [Value.oneCell']) ?_; intro U hB hU; have hU1 := hU.ext ((Ext.refl w5).alloc _) (fun q hq => by omega); have HEU := hide hU1; have HBU := hide hB; have HB1s := hide (hU1.kept (unhide HB1)); clear hB hU hU1)
    | (refine wpList_load_blk rfl 46 _ rfl (w5.heap.size) rfl _ _ _ _ (unhide HBU) Tryd.underlying46 rfl infoL ?_)
    | (refine wpList_store_blk rfl 46 _ _ rfl rfl (w.heap.size + 1) rfl _ _ _ rfl (unhide HB1s) infoL rfl (by simp [Value.oneCell']) ?_; intro Z hy hf9; have HY := hide hy; have FY := hide hf9; clear hy hf9))
  have v0 : Z.cell? ⟨w.heap.size + 1, 0, none⟩ = some (.string XA) := cells_of (unhide HY) 0 _ rfl
  have v1 : Z.cell? ⟨w.heap.size + 1, 1, none⟩ = some (.string XB) := cells_of (unhide HY) 1 _ rfl
  have v2 : Z.cell? ⟨w.heap.size + 1, 2, none⟩ = some (.string c) := cells_of (unhide HY) 2 _ rfl
  have v3 : Z.cell? ⟨w.heap.size + 1, 3, none⟩ = some (.slice ua un.length uc) := cells_of (unhide HY) 3 _ rfl
  exact bodyPost_ret (v := .tuple #[.agg #[.string XA, .string XB, .string c, .slice ua un.length uc], .int .i64 0]) (by simp [results, Tryd.results124, go_sem, v0, v1, v2, v3]) rfl ⟨⟨_, rfl, (((unhide HL5).ext (unhide HEU)).fr (unhide FY) (fun g hg e9 => by have := ((unhide HL5).lt g hg).1; omega)).mono (by omega)⟩, (unhide FY).ext ((unhide HE0).trans (unhide HEU)) (fun q hq => by omega)⟩
set_option maxRecDepth 10000 in
set_option maxHeartbeats 8000000 in
theorem l4Moved_9_yes (a b c : ByteArray) (v : Value) (un : List (ByteArray × ByteArray)) (w : World) (hv : LnAt w v un) (za : a.size ≤ 1048576) (zb : b.size ≤ 1048576) (XA XB : ByteArray) (N : Int) (hw : IntKind.i64.wrap (((cutC (baL a)).length : Int) + ((cutC (baL b)).length : Int)) = N ∧ ¬ N = -2) (HM : ∀ W u, Ext w W → LnAt W u un → Calls Tryd.prog 135 #[.agg #[.string a, .string b, .string c, u], .int .i64 N] W fun e w' => LnO w' W.heap.size ⟨XA, XB, c, un, 1⟩ e ∧ Ext W w') :
    Calls Tryd.prog 124 #[.agg #[.string a, .string b, .string c, v], .int .i64 9] w fun e w' => LnO w' w.heap.size ⟨XA, XB, c, un, 1⟩ e ∧ Ext w w' := by
  have infoL : (Tryd.prog.info? 46).map (·.size) = some 4 := by kernel_rfl
  have hcA := hide (fun W => l4Cut_any (baL a) (baL_bytes a) W (by rw [baL_len]; omega))
  have hcB := hide (fun W => l4Cut_any (baL b) (baL_bytes b) W (by rw [baL_len]; omega))
  rw [toBA_baL] at hcA hcB
  have lA := cutC_len (baL a)
  have lB := cutC_len (baL b)
  rw [baL_len] at lA lB
  obtain ⟨ao, ca, rfl, _, _⟩ := id hv
  have HMv := hide (fun W (E : Ext w W) => HM W _ E (hv.ext E))
  obtain ⟨hw1, hw2⟩ := hw
  clear hv HM
  obtain ⟨A, hA⟩ : ∃ A, A = cutC (baL a) := ⟨_, rfl⟩
  obtain ⟨B, hB⟩ : ∃ B, B = cutC (baL b) := ⟨_, rfl⟩
  rw [← hA] at hcA lA hw1
  rw [← hB] at hcB lB hw1
  obtain ⟨nA, hnA⟩ : ∃ n, A.length = n := ⟨_, rfl⟩
  obtain ⟨nB, hnB⟩ : ∃ n, B.length = n := ⟨_, rfl⟩
  rw [hnA] at hw1
  rw [hnB] at hw1
  have HNA := hide hnA
  have HNB := hide hnB
  clear hA hB hnA hnB
  obtain ⟨V, hV⟩ : ∃ V, V = (w.alloc (.cells #[.string a, .string b, .string c, .slice ao un.length ca] 46)).alloc (.cells #[.string { data := #[] }, .string { data := #[] }, .string { data := #[] }, .slice none 0 0] 46) := ⟨_, rfl⟩
  have E0 : Ext w V := by rw [hV]; exact ((Ext.refl w).alloc _).alloc _
  have HB0 : Hid (V.heap[w.heap.size]? = some (.cells #[.string a, .string b, .string c, .slice ao un.length ca] 46 (0, 0))) := hide (by rw [hV]; exact ((Ext.refl _).alloc _).kept (new_block w _))
  have HB1 : Hid (V.heap[w.heap.size + 1]? = some (.cells #[.string { data := #[] }, .string { data := #[] }, .string { data := #[] }, .slice none 0 0] 46 (0, 0))) := hide (by rw [hV]; have h := new_block (w.alloc (.cells #[.string a, .string b, .string c, .slice ao un.length ca] 46)) (.cells #[.string { data := #[] }, .string { data := #[] }, .string { data := #[] }, .slice none 0 0] 46); rw [show (w.alloc (.cells #[.string a, .string b, .string c, .slice ao un.length ca] 46)).heap.size = w.heap.size + 1 by simp] at h; exact h)
  have sz0 : w.heap.size + 1 < V.heap.size := lt_of_block (unhide HB1)
  have HW := hide hV
  have HE0 := hide E0
  clear hV E0
  go_enter Tryd.func124, Tryd.ntmps124
  go_wp2_with fail
  rw [← unhide HW]
  clear HW
  refine ((unhide hcA) _).mono ?_
  rintro e w2 ⟨v2, rs2, rfl, o2, E2⟩
  obtain ⟨a2, c2, rfl⟩ : ∃ a c, v2 = .slice a A.length c := by
    obtain ⟨_, ao, cc, e, _⟩ := o2.cls
    exact ⟨ao, cc, e⟩
  have H2 := hide o2.cls
  rw [unhide HNA] at H2 ⊢
  replace HB0 := hide (E2.kept (unhide HB0))
  replace HB1 := hide (E2.kept (unhide HB1))
  replace HE0 := hide ((unhide HE0).trans E2)
  have q1 : w2.cell? ⟨w.heap.size, 1, none⟩ = some (.string b) := cells_of (unhide HB0) 1 _ rfl
  have z2 := E2.size
  clear o2 E2 hcA
  go_wp2_with fail
  refine ((unhide hcB) _).mono ?_
  rintro e w3 ⟨v3, rs3, rfl, o3, E3⟩
  obtain ⟨a3, c3, rfl⟩ : ∃ a c, v3 = .slice a B.length c := by
    obtain ⟨_, ao, cc, e, _⟩ := o3.cls
    exact ⟨ao, cc, e⟩
  have H3 := hide o3.cls
  rw [unhide HNB] at H3 ⊢
  replace H2 := hide ((unhide H2).ext E3)
  replace HB0 := hide (E3.kept (unhide HB0))
  replace HB1 := hide (E3.kept (unhide HB1))
  replace HE0 := hide ((unhide HE0).trans E3)
  have z3 := E3.size
  clear o3 E3 hcB q1
  have HMc := hide ((unhide HMv) w3 (unhide HE0))
  clear HMv H2 H3 HNA HNB
  go_wp2_with (first
    | (refine wpList_load_blk rfl 46 _ rfl (w.heap.size) rfl _ _ _ _ (unhide HB0) Tryd.underlying46 rfl infoL ?_))
  refine (unhide HMc).mono ?_
  rintro e w5 ⟨⟨v5, rfl, hl5⟩, E5⟩
  obtain ⟨ua, uc, rfl⟩ : ∃ ua uc, v5 = .slice ua un.length uc := by
    obtain ⟨x, y, e, _⟩ := hl5.reads
    exact ⟨x, y, e⟩
  have HL5 := hide hl5
  replace HB1 := hide (E5.kept (unhide HB1))
  replace HE0 := hide ((unhide HE0).trans E5)
  have HN := hide (heap_alloc_new w5 (.cells #[.string { data := #[] }, .string { data := #[] }, .string { data := #[] }, .slice none 0 0] 46))
  have hz5 : w.heap.size + 1 < w5.heap.size := lt_of_block (unhide HB1)
  clear HMc E5 hl5 HB0
  dsimp only
  go_wp2_with (first
    | (refine wpList_store_blk rfl 46 _ _ rfl rfl (w5.heap.size) rfl _ _ _ rfl (unhide HN) infoL rfl (by simp [Value.oneCell']) ?_; intro U hB hU; have hU1 := hU.ext ((Ext.refl w5).alloc _) (fun q hq => by omega); have HEU := hide hU1; have HBU := hide hB; have HB1s := hide (hU1.kept (unhide HB1)); clear hB hU hU1)
    | (refine wpList_load_blk rfl 46 _ rfl (w5.heap.size) rfl _ _ _ _ (unhide HBU) Tryd.underlying46 rfl infoL ?_)
    | (refine wpList_store_blk rfl 46 _ _ rfl rfl (w.heap.size + 1) rfl _ _ _ rfl (unhide HB1s) infoL rfl (by simp [Value.oneCell']) ?_; intro Z hy hf9; have HY := hide hy; have FY := hide hf9; clear hy hf9))
  have v0 : Z.cell? ⟨w.heap.size + 1, 0, none⟩ = some (.string XA) := cells_of (unhide HY) 0 _ rfl
  have v1 : Z.cell? ⟨w.heap.size + 1, 1, none⟩ = some (.string XB) := cells_of (unhide HY) 1 _ rfl
  have v2 : Z.cell? ⟨w.heap.size + 1, 2, none⟩ = some (.string c) := cells_of (unhide HY) 2 _ rfl
  have v3 : Z.cell? ⟨w.heap.size + 1, 3, none⟩ = some (.slice ua un.length uc) := cells_of (unhide HY) 3 _ rfl
  exact bodyPost_ret (v := .tuple #[.agg #[.string XA, .string XB, .string c, .slice ua un.length uc], .int .i64 1]) (by simp [results, Tryd.results124, go_sem, v0, v1, v2, v3]) rfl ⟨⟨_, rfl, (((unhide HL5).ext (unhide HEU)).fr (unhide FY) (fun g hg e9 => by have := ((unhide HL5).lt g hg).1; omega)).mono (by omega)⟩, (unhide FY).ext ((unhide HE0).trans (unhide HEU)) (fun q hq => by omega)⟩
end Go.Proofs.YtbieoijeilhadaaDoor

namespace Go.Proofs.YtbieoijeilhadaaDoor
open Go.RowKit
set_option maxRecDepth 10000 in
set_option maxHeartbeats 8000000 in
theorem l4Moved_18_no (a b c : ByteArray) (v : Value) (un : List (ByteArray × ByteArray)) (w : World) (hv : LnAt w v un) (za : a.size ≤ 1048576) (zb : b.size ≤ 1048576) (XA XB : ByteArray) (N : Int) (hw : N = (((cutC (baL a)).length - wdL (cutC (baL a)) : Nat) : Int) ∧ ¬ N = -2) (HM : ∀ W u, Ext w W → LnAt W u un → Calls Tryd.prog 135 #[.agg #[.string a, .string b, .string c, u], .int .i64 N] W fun e w' => LnO w' W.heap.size ⟨XA, XB, c, un, 2⟩ e ∧ Ext W w') :
    Calls Tryd.prog 124 #[.agg #[.string a, .string b, .string c, v], .int .i64 18] w fun e w' => LnO w' w.heap.size ⟨XA, XB, c, un, 2⟩ e ∧ Ext w w' := by
  have infoL : (Tryd.prog.info? 46).map (·.size) = some 4 := by kernel_rfl
  have hcA := hide (fun W => l4Cut_any (baL a) (baL_bytes a) W (by rw [baL_len]; omega))
  have hcB := hide (fun W => l4Cut_any (baL b) (baL_bytes b) W (by rw [baL_len]; omega))
  rw [toBA_baL] at hcA hcB
  have lA := cutC_len (baL a)
  have lB := cutC_len (baL b)
  rw [baL_len] at lA lB
  obtain ⟨ao, ca, rfl, _, _⟩ := id hv
  have HMv := hide (fun W (E : Ext w W) => HM W _ E (hv.ext E))
  have HWd := hide (fun v W (hv : ClsAt W v (cutC (baL a))) => l4WordLeft_any v (cutC (baL a)) W hv (by omega))
  obtain ⟨hw0, hw2⟩ := hw
  clear hv HM
  obtain ⟨A, hA⟩ : ∃ A, A = cutC (baL a) := ⟨_, rfl⟩
  obtain ⟨B, hB⟩ : ∃ B, B = cutC (baL b) := ⟨_, rfl⟩
  rw [← hA] at hcA lA HWd hw0
  rw [← hB] at hcB lB
  obtain ⟨nA, hnA⟩ : ∃ n, A.length = n := ⟨_, rfl⟩
  obtain ⟨nB, hnB⟩ : ∃ n, B.length = n := ⟨_, rfl⟩
  have HWs : Hid (∀ r : Nat, r ≤ A.length → Wd (fun j => spB (cR A (A.length - 1 - j))) A.length (A.length - r) → ((r : Nat) : Int) = N) := hide (fun r hr h => by
    have h1 : wdL A = A.length - r := wdN_eq h
    rw [hw0, h1]
    omega)
  clear hw0
  have HNA := hide hnA
  have HNB := hide hnB
  clear hA hB hnA hnB
  obtain ⟨V, hV⟩ : ∃ V, V = (w.alloc (.cells #[.string a, .string b, .string c, .slice ao un.length ca] 46)).alloc (.cells #[.string { data := #[] }, .string { data := #[] }, .string { data := #[] }, .slice none 0 0] 46) := ⟨_, rfl⟩
  have E0 : Ext w V := by rw [hV]; exact ((Ext.refl w).alloc _).alloc _
  have HB0 : Hid (V.heap[w.heap.size]? = some (.cells #[.string a, .string b, .string c, .slice ao un.length ca] 46 (0, 0))) := hide (by rw [hV]; exact ((Ext.refl _).alloc _).kept (new_block w _))
  have HB1 : Hid (V.heap[w.heap.size + 1]? = some (.cells #[.string { data := #[] }, .string { data := #[] }, .string { data := #[] }, .slice none 0 0] 46 (0, 0))) := hide (by rw [hV]; have h := new_block (w.alloc (.cells #[.string a, .string b, .string c, .slice ao un.length ca] 46)) (.cells #[.string { data := #[] }, .string { data := #[] }, .string { data := #[] }, .slice none 0 0] 46); rw [show (w.alloc (.cells #[.string a, .string b, .string c, .slice ao un.length ca] 46)).heap.size = w.heap.size + 1 by simp] at h; exact h)
  have sz0 : w.heap.size + 1 < V.heap.size := lt_of_block (unhide HB1)
  have HW := hide hV
  have HE0 := hide E0
  clear hV E0
  go_enter Tryd.func124, Tryd.ntmps124
  go_wp2_with fail
  rw [← unhide HW]
  clear HW
  refine ((unhide hcA) _).mono ?_
  rintro e w2 ⟨v2, rs2, rfl, o2, E2⟩
  obtain ⟨a2, c2, rfl⟩ : ∃ a c, v2 = .slice a A.length c := by
    obtain ⟨_, ao, cc, e, _⟩ := o2.cls
    exact ⟨ao, cc, e⟩
  have H2 := hide o2.cls
  rw [unhide HNA] at H2 ⊢
  replace HB0 := hide (E2.kept (unhide HB0))
  replace HB1 := hide (E2.kept (unhide HB1))
  replace HE0 := hide ((unhide HE0).trans E2)
  have q1 : w2.cell? ⟨w.heap.size, 1, none⟩ = some (.string b) := cells_of (unhide HB0) 1 _ rfl
  have z2 := E2.size
  clear o2 E2 hcA
  go_wp2_with fail
  refine ((unhide hcB) _).mono ?_
  rintro e w3 ⟨v3, rs3, rfl, o3, E3⟩
  obtain ⟨a3, c3, rfl⟩ : ∃ a c, v3 = .slice a B.length c := by
    obtain ⟨_, ao, cc, e, _⟩ := o3.cls
    exact ⟨ao, cc, e⟩
  have H3 := hide o3.cls
  rw [unhide HNB] at H3 ⊢
  replace H2 := hide ((unhide H2).ext E3)
  replace HB0 := hide (E3.kept (unhide HB0))
  replace HB1 := hide (E3.kept (unhide HB1))
  replace HE0 := hide ((unhide HE0).trans E3)
  have z3 := E3.size
  clear o3 E3 hcB q1
  go_wp2_with fail
  refine ((unhide HWd) _ _ (unhide H2)).mono ?_
  rintro e w4 ⟨r, rfl, hrl, hwd, E4⟩
  have hrN := (unhide HWs) r hrl hwd
  rw [hrN]
  replace HB0 := hide (E4.kept (unhide HB0))
  replace HB1 := hide (E4.kept (unhide HB1))
  replace HE0 := hide ((unhide HE0).trans E4)
  have z4 := E4.size
  clear hrN hrl hwd E4 HWd HWs
  have HMc := hide ((unhide HMv) w4 (unhide HE0))
  clear HMv H2 H3 HNA HNB
  go_wp2_with (first
    | (refine wpList_load_blk rfl 46 _ rfl (w.heap.size) rfl _ _ _ _ (unhide HB0) Tryd.underlying46 rfl infoL ?_))
  refine (unhide HMc).mono ?_
  rintro e w5 ⟨⟨v5, rfl, hl5⟩, E5⟩
  obtain ⟨ua, uc, rfl⟩ : ∃ ua uc, v5 = .slice ua un.length uc := by
    obtain ⟨x, y, e, _⟩ := hl5.reads
    exact ⟨x, y, e⟩
  have HL5 := hide hl5
  replace HB1 := hide (E5.kept (unhide HB1))
  replace HE0 := hide ((unhide HE0).trans E5)
  have HN := hide (heap_alloc_new w5 (.cells #[.string { data := #[] }, .string { data := #[] }, .string { data := #[] }, .slice none 0 0] 46))
  have hz5 : w.heap.size + 1 < w5.heap.size := lt_of_block (unhide HB1)
  clear HMc E5 hl5 HB0
  dsimp only
  go_wp2_with (first
    | (refine wpList_store_blk rfl 46 _ _ rfl rfl (w5.heap.size) rfl _ _ _ rfl (unhide HN) infoL rfl (by simp [Value.oneCell']) ?_; intro U hB hU; have hU1 := hU.ext ((Ext.refl w5).alloc _) (fun q hq => by omega); have HEU := hide hU1; have HBU := hide hB; have HB1s := hide (hU1.kept (unhide HB1)); clear hB hU hU1)
    | (refine wpList_load_blk rfl 46 _ rfl (w5.heap.size) rfl _ _ _ _ (unhide HBU) Tryd.underlying46 rfl infoL ?_)
    | (refine wpList_store_blk rfl 46 _ _ rfl rfl (w.heap.size + 1) rfl _ _ _ rfl (unhide HB1s) infoL rfl (by simp [Value.oneCell']) ?_; intro Z hy hf9; have HY := hide hy; have FY := hide hf9; clear hy hf9))
  have v0 : Z.cell? ⟨w.heap.size + 1, 0, none⟩ = some (.string XA) := cells_of (unhide HY) 0 _ rfl
  have v1 : Z.cell? ⟨w.heap.size + 1, 1, none⟩ = some (.string XB) := cells_of (unhide HY) 1 _ rfl
  have v2 : Z.cell? ⟨w.heap.size + 1, 2, none⟩ = some (.string c) := cells_of (unhide HY) 2 _ rfl
  have v3 : Z.cell? ⟨w.heap.size + 1, 3, none⟩ = some (.slice ua un.length uc) := cells_of (unhide HY) 3 _ rfl
  exact bodyPost_ret (v := .tuple #[.agg #[.string XA, .string XB, .string c, .slice ua un.length uc], .int .i64 2]) (by simp [results, Tryd.results124, go_sem, v0, v1, v2, v3]) rfl ⟨⟨_, rfl, (((unhide HL5).ext (unhide HEU)).fr (unhide FY) (fun g hg e9 => by have := ((unhide HL5).lt g hg).1; omega)).mono (by omega)⟩, (unhide FY).ext ((unhide HE0).trans (unhide HEU)) (fun q hq => by omega)⟩
set_option maxRecDepth 10000 in
set_option maxHeartbeats 8000000 in
theorem l4Moved_18_yes (a b c : ByteArray) (v : Value) (un : List (ByteArray × ByteArray)) (w : World) (hv : LnAt w v un) (za : a.size ≤ 1048576) (zb : b.size ≤ 1048576) (XA XB : ByteArray) (N : Int) (hw : N = (((cutC (baL a)).length - wdL (cutC (baL a)) : Nat) : Int) ∧ ¬ N = -2) (HM : ∀ W u, Ext w W → LnAt W u un → Calls Tryd.prog 135 #[.agg #[.string a, .string b, .string c, u], .int .i64 N] W fun e w' => LnO w' W.heap.size ⟨XA, XB, c, un, 1⟩ e ∧ Ext W w') :
    Calls Tryd.prog 124 #[.agg #[.string a, .string b, .string c, v], .int .i64 18] w fun e w' => LnO w' w.heap.size ⟨XA, XB, c, un, 1⟩ e ∧ Ext w w' := by
  have infoL : (Tryd.prog.info? 46).map (·.size) = some 4 := by kernel_rfl
  have hcA := hide (fun W => l4Cut_any (baL a) (baL_bytes a) W (by rw [baL_len]; omega))
  have hcB := hide (fun W => l4Cut_any (baL b) (baL_bytes b) W (by rw [baL_len]; omega))
  rw [toBA_baL] at hcA hcB
  have lA := cutC_len (baL a)
  have lB := cutC_len (baL b)
  rw [baL_len] at lA lB
  obtain ⟨ao, ca, rfl, _, _⟩ := id hv
  have HMv := hide (fun W (E : Ext w W) => HM W _ E (hv.ext E))
  have HWd := hide (fun v W (hv : ClsAt W v (cutC (baL a))) => l4WordLeft_any v (cutC (baL a)) W hv (by omega))
  obtain ⟨hw0, hw2⟩ := hw
  clear hv HM
  obtain ⟨A, hA⟩ : ∃ A, A = cutC (baL a) := ⟨_, rfl⟩
  obtain ⟨B, hB⟩ : ∃ B, B = cutC (baL b) := ⟨_, rfl⟩
  rw [← hA] at hcA lA HWd hw0
  rw [← hB] at hcB lB
  obtain ⟨nA, hnA⟩ : ∃ n, A.length = n := ⟨_, rfl⟩
  obtain ⟨nB, hnB⟩ : ∃ n, B.length = n := ⟨_, rfl⟩
  have HWs : Hid (∀ r : Nat, r ≤ A.length → Wd (fun j => spB (cR A (A.length - 1 - j))) A.length (A.length - r) → ((r : Nat) : Int) = N) := hide (fun r hr h => by
    have h1 : wdL A = A.length - r := wdN_eq h
    rw [hw0, h1]
    omega)
  clear hw0
  have HNA := hide hnA
  have HNB := hide hnB
  clear hA hB hnA hnB
  obtain ⟨V, hV⟩ : ∃ V, V = (w.alloc (.cells #[.string a, .string b, .string c, .slice ao un.length ca] 46)).alloc (.cells #[.string { data := #[] }, .string { data := #[] }, .string { data := #[] }, .slice none 0 0] 46) := ⟨_, rfl⟩
  have E0 : Ext w V := by rw [hV]; exact ((Ext.refl w).alloc _).alloc _
  have HB0 : Hid (V.heap[w.heap.size]? = some (.cells #[.string a, .string b, .string c, .slice ao un.length ca] 46 (0, 0))) := hide (by rw [hV]; exact ((Ext.refl _).alloc _).kept (new_block w _))
  have HB1 : Hid (V.heap[w.heap.size + 1]? = some (.cells #[.string { data := #[] }, .string { data := #[] }, .string { data := #[] }, .slice none 0 0] 46 (0, 0))) := hide (by rw [hV]; have h := new_block (w.alloc (.cells #[.string a, .string b, .string c, .slice ao un.length ca] 46)) (.cells #[.string { data := #[] }, .string { data := #[] }, .string { data := #[] }, .slice none 0 0] 46); rw [show (w.alloc (.cells #[.string a, .string b, .string c, .slice ao un.length ca] 46)).heap.size = w.heap.size + 1 by simp] at h; exact h)
  have sz0 : w.heap.size + 1 < V.heap.size := lt_of_block (unhide HB1)
  have HW := hide hV
  have HE0 := hide E0
  clear hV E0
  go_enter Tryd.func124, Tryd.ntmps124
  go_wp2_with fail
  rw [← unhide HW]
  clear HW
  refine ((unhide hcA) _).mono ?_
  rintro e w2 ⟨v2, rs2, rfl, o2, E2⟩
  obtain ⟨a2, c2, rfl⟩ : ∃ a c, v2 = .slice a A.length c := by
    obtain ⟨_, ao, cc, e, _⟩ := o2.cls
    exact ⟨ao, cc, e⟩
  have H2 := hide o2.cls
  rw [unhide HNA] at H2 ⊢
  replace HB0 := hide (E2.kept (unhide HB0))
  replace HB1 := hide (E2.kept (unhide HB1))
  replace HE0 := hide ((unhide HE0).trans E2)
  have q1 : w2.cell? ⟨w.heap.size, 1, none⟩ = some (.string b) := cells_of (unhide HB0) 1 _ rfl
  have z2 := E2.size
  clear o2 E2 hcA
  go_wp2_with fail
  refine ((unhide hcB) _).mono ?_
  rintro e w3 ⟨v3, rs3, rfl, o3, E3⟩
  obtain ⟨a3, c3, rfl⟩ : ∃ a c, v3 = .slice a B.length c := by
    obtain ⟨_, ao, cc, e, _⟩ := o3.cls
    exact ⟨ao, cc, e⟩
  have H3 := hide o3.cls
  rw [unhide HNB] at H3 ⊢
  replace H2 := hide ((unhide H2).ext E3)
  replace HB0 := hide (E3.kept (unhide HB0))
  replace HB1 := hide (E3.kept (unhide HB1))
  replace HE0 := hide ((unhide HE0).trans E3)
  have z3 := E3.size
  clear o3 E3 hcB q1
  go_wp2_with fail
  refine ((unhide HWd) _ _ (unhide H2)).mono ?_
  rintro e w4 ⟨r, rfl, hrl, hwd, E4⟩
  have hrN := (unhide HWs) r hrl hwd
  rw [hrN]
  replace HB0 := hide (E4.kept (unhide HB0))
  replace HB1 := hide (E4.kept (unhide HB1))
  replace HE0 := hide ((unhide HE0).trans E4)
  have z4 := E4.size
  clear hrN hrl hwd E4 HWd HWs
  have HMc := hide ((unhide HMv) w4 (unhide HE0))
  clear HMv H2 H3 HNA HNB
  go_wp2_with (first
    | (refine wpList_load_blk rfl 46 _ rfl (w.heap.size) rfl _ _ _ _ (unhide HB0) Tryd.underlying46 rfl infoL ?_))
  refine (unhide HMc).mono ?_
  rintro e w5 ⟨⟨v5, rfl, hl5⟩, E5⟩
  obtain ⟨ua, uc, rfl⟩ : ∃ ua uc, v5 = .slice ua un.length uc := by
    obtain ⟨x, y, e, _⟩ := hl5.reads
    exact ⟨x, y, e⟩
  have HL5 := hide hl5
  replace HB1 := hide (E5.kept (unhide HB1))
  replace HE0 := hide ((unhide HE0).trans E5)
  have HN := hide (heap_alloc_new w5 (.cells #[.string { data := #[] }, .string { data := #[] }, .string { data := #[] }, .slice none 0 0] 46))
  have hz5 : w.heap.size + 1 < w5.heap.size := lt_of_block (unhide HB1)
  clear HMc E5 hl5 HB0
  dsimp only
  go_wp2_with (first
    | (refine wpList_store_blk rfl 46 _ _ rfl rfl (w5.heap.size) rfl _ _ _ rfl (unhide HN) infoL rfl (by simp [Value.oneCell']) ?_; intro U hB hU; have hU1 := hU.ext ((Ext.refl w5).alloc _) (fun q hq => by omega); have HEU := hide hU1; have HBU := hide hB; have HB1s := hide (hU1.kept (unhide HB1)); clear hB hU hU1)
    | (refine wpList_load_blk rfl 46 _ rfl (w5.heap.size) rfl _ _ _ _ (unhide HBU) Tryd.underlying46 rfl infoL ?_)
    | (refine wpList_store_blk rfl 46 _ _ rfl rfl (w.heap.size + 1) rfl _ _ _ rfl (unhide HB1s) infoL rfl (by simp [Value.oneCell']) ?_; intro Z hy hf9; have HY := hide hy; have FY := hide hf9; clear hy hf9))
  have v0 : Z.cell? ⟨w.heap.size + 1, 0, none⟩ = some (.string XA) := cells_of (unhide HY) 0 _ rfl
  have v1 : Z.cell? ⟨w.heap.size + 1, 1, none⟩ = some (.string XB) := cells_of (unhide HY) 1 _ rfl
  have v2 : Z.cell? ⟨w.heap.size + 1, 2, none⟩ = some (.string c) := cells_of (unhide HY) 2 _ rfl
  have v3 : Z.cell? ⟨w.heap.size + 1, 3, none⟩ = some (.slice ua un.length uc) := cells_of (unhide HY) 3 _ rfl
  exact bodyPost_ret (v := .tuple #[.agg #[.string XA, .string XB, .string c, .slice ua un.length uc], .int .i64 1]) (by simp [results, Tryd.results124, go_sem, v0, v1, v2, v3]) rfl ⟨⟨_, rfl, (((unhide HL5).ext (unhide HEU)).fr (unhide FY) (fun g hg e9 => by have := ((unhide HL5).lt g hg).1; omega)).mono (by omega)⟩, (unhide FY).ext ((unhide HE0).trans (unhide HEU)) (fun q hq => by omega)⟩
end Go.Proofs.YtbieoijeilhadaaDoor
