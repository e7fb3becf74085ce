import Derived.Test.YtbieoijeilhadaaDoorKmB
namespace Go.Proofs.YtbieoijeilhadaaDoor
open Go.RowKit Go.Maps
set_option maxRecDepth 10000 in
set_option maxHeartbeats 4000000 in
theorem escaped_91 (c : Kc) (ks : List (List Int × Int)) (w : World) (k : KW w c [27] false ks) :
    Calls Tryd.prog 107 #[.int .u8 91, ptr c.t, ptr c.z, ptr (c.t + 2), ptr (c.t + 1)] w fun e w' => Stp c [27, 91] false ks w (betweenF c.y) e w' := by
  have d0 := k.sts.2.2.2.2.2.2.1.cell
  have HH := hide (hold_dk c.D c.base c.keep [27] false ks _ _ _ 91 w k.dk (by simp))
  have HK := hide k
  clear k
  go_enter Tryd.func107, Tryd.ntmps107
  go_wp2_with fail
  refine (unhide HH).mono ?_
  rintro e w1 ⟨rfl, hd, hf⟩
  have k1 := (unhide HK).go hf hd
  have e1 := k1.sts.2.2.2.2.2.2.2.2.2.1.cell
  have HK1 := hide k1
  have HF := hide hf
  clear hd hf k1 HH
  go_wp2
  exact bodyPost_ret (v := betweenF c.y) (by simp [results, Tryd.results107, go_sem]) rfl ⟨rfl, unhide HK1, unhide HF⟩
set_option maxRecDepth 10000 in
set_option maxHeartbeats 4000000 in
theorem escaped_79 (c : Kc) (ks : List (List Int × Int)) (w : World) (k : KW w c [27] false ks) :
    Calls Tryd.prog 107 #[.int .u8 79, ptr c.t, ptr c.z, ptr (c.t + 2), ptr (c.t + 1)] w fun e w' => Stp c [27, 79] false ks w (singleF c.t) e w' := by
  have d0 := k.sts.2.2.2.2.2.2.1.cell
  have HH := hide (hold_dk c.D c.base c.keep [27] false ks _ _ _ 79 w k.dk (by simp))
  have HK := hide k
  clear k
  go_enter Tryd.func107, Tryd.ntmps107
  go_wp2_with fail
  refine (unhide HH).mono ?_
  rintro e w1 ⟨rfl, hd, hf⟩
  have k1 := (unhide HK).go hf hd
  have e1 := k1.sts.2.2.2.2.2.2.2.2.1.cell
  have HK1 := hide k1
  have HF := hide hf
  clear hd hf k1 HH
  go_wp2
  exact bodyPost_ret (v := singleF c.t) (by simp [results, Tryd.results107, go_sem]) rfl ⟨rfl, unhide HK1, unhide HF⟩
set_option maxRecDepth 10000 in
set_option maxHeartbeats 4000000 in
theorem escaped_27 (c : Kc) (ks : List (List Int × Int)) (w : World) (k : KW w c [27] false ks) (hl : ks.length ≤ 4194304) :
    Calls Tryd.prog 107 #[.int .u8 27, ptr c.t, ptr c.z, ptr (c.t + 2), ptr (c.t + 1)] w fun e w' => Stp c [27] false (ks ++ [([], 22)]) w (escapedF c.t c.z) e w' := by
  have d0 := k.sts.2.2.2.2.2.2.1.cell
  have HH := hide (release_dk c.D c.base c.keep [27] false ks _ _ _ w k.dk)
  have HK := hide k
  clear k
  go_enter Tryd.func107, Tryd.ntmps107
  go_wp2_with fail
  refine (unhide HH).mono ?_
  rintro e w1 ⟨⟨hv, rfl, _⟩, hd, hf⟩
  have k1 := (unhide HK).go hf hd
  have e0 := k1.sts.2.2.2.2.2.2.1.cell
  have HP := hide (press_dk c.D c.base c.keep [] false ks _ _ _ 22 w1 k1.dk hl)
  have HK1 := hide k1
  have HF := hide hf
  clear hd hf k1 HH
  go_wp2_with fail
  refine (unhide HP).mono ?_
  rintro e w2 ⟨rfl, hd, hf⟩
  have k2 := (unhide HK1).go hf hd
  have e1 : w2.cell? ⟨c.t + 1, 0, none⟩ = some (.func (.func 72) #[] #[ptr c.q, ptr (c.q + 3), ptr (c.q + 2), ptr (c.q + 1)]) := k2.sts.2.2.2.2.2.2.2.1.cell
  have HG := hide (ground_27 c (ks ++ [([], 22)]) w2 k2)
  have HF2 : Hid (FrD c.D c.base c.keep w w2) := hide (Fr.tr (unhide HF) hf)
  clear hd hf k2 HP HF
  go_wp2_with fail
  refine (unhide HG).mono ?_
  rintro e w3 ⟨rfl, k3, f3⟩
  have HK3 := hide k3
  have HF3 : Hid (FrD c.D c.base c.keep w w3) := hide (Fr.tr (unhide HF2) f3)
  clear k3 f3 HG HF2
  go_wp2
  exact bodyPost_ret (v := escapedF c.t c.z) (by simp [results, Tryd.results107, go_sem]) rfl ⟨rfl, unhide HK3, unhide HF3⟩
set_option linter.unusedSimpArgs false in
set_option maxRecDepth 10000 in
set_option maxHeartbeats 4000000 in
theorem escaped_else (c : Kc) (b : Int) (ks : List (List Int × Int)) (w : World) (k : KW w c [27] false ks) (hl : ks.length ≤ 4194304) (h1 : b ≠ 91) (h2 : b ≠ 79) (h3 : b ≠ 27) :
    Calls Tryd.prog 107 #[.int .u8 b, ptr c.t, ptr c.z, ptr (c.t + 2), ptr (c.t + 1)] w fun e w' => Stp c [] false (ks ++ [([], kindOf metaL b)]) w c.ground e w' := by
  have d0 := k.sts.2.2.2.2.2.2.1.cell
  have q1 : (b == 91) = false := by simp [h1]
  have q2 : (b == 79) = false := by simp [h2]
  have q3 : (b == 27) = false := by simp [h3]
  have HH := hide (release_dk c.D c.base c.keep [27] false ks _ _ _ w k.dk)
  have HK := hide k
  clear k
  go_enter Tryd.func107, Tryd.ntmps107
  go_wp2_with fail
  refine (unhide HH).mono ?_
  rintro e w1 ⟨⟨hv, rfl, _⟩, hd, hf⟩
  have k1 := (unhide HK).go hf hd
  obtain ⟨_, _, _, hB, _⟩ := id k1.dk
  have d4 := cells_of hB 4 _ rfl
  replace d0 := k1.sts.2.2.2.2.2.2.1.cell
  have HK1 := hide k1
  have HF := hide hf
  clear hd hf k1 HH hB HK
  go_wp2_with fail
  refine wp_region_held_drew (S := fun W => W.cell? ⟨c.t, 0, none⟩ = some (ptr c.D) ∧ W.cell? ⟨c.D, 4, none⟩ = some (.map (some c.b2))) (by kernel_rfl) ⟨d0, d4⟩ (fun hHeld => ?_)
  refine wpAnyH_take (i := 0) (v := ?_) rfl (by kernel_rfl) (by kernel_rfl) (by kernel_rfl) (fun _ _ _ h => h) (Or.inl ⟨by rfl, ?_⟩) (by assumption) ?_
  rotate_left
  · intro w' hSw; obtain ⟨e1, e2⟩ := hSw; go_simp <;> with_reducible rfl
  simp only [Act.put, qA, qB, qC, qD, qE, qF]
  refine wpAnyH_take (i := 1) (v := ?_) rfl (by kernel_rfl) (by kernel_rfl) (by kernel_rfl) (fun _ _ _ h => h) (Or.inl ⟨by rfl, ?_⟩) (by assumption) ?_
  rotate_left
  · intro w' hSw; obtain ⟨e1, e2⟩ := hSw; go_simp <;> with_reducible rfl
  simp only [Act.put, qA, qB, qC, qD, qE, qF]
  refine wpAnyH_take (i := 2) (v := ?_) rfl (by kernel_rfl) (by kernel_rfl) (by kernel_rfl) (fun _ _ _ h => h) (Or.inl ⟨by rfl, ?_⟩) (by assumption) ?_
  rotate_left
  · intro w' hSw; obtain ⟨e1, e2⟩ := hSw; go_simp <;> with_reducible rfl
  simp only [Act.put, qA, qB, qC, qD, qE, qF]
  refine wpAnyH_take (i := 3) (v := ?_) rfl (by kernel_rfl) (by kernel_rfl) (by kernel_rfl) (fun _ _ _ h => h) (Or.inl ⟨by rfl, ?_⟩) (by assumption) ?_
  rotate_left
  · intro w' hSw; obtain ⟨e1, e2⟩ := hSw; go_simp <;> with_reducible rfl
  simp only [Act.put, qA, qB, qC, qD, qE, qF]
  refine wpAnyH_take (i := 4) (v := ?_) rfl (by kernel_rfl) (by kernel_rfl) (by kernel_rfl) (fun _ _ _ h => h) (Or.inl ⟨by rfl, ?_⟩) (by assumption) ?_
  rotate_left
  · intro w' hSw; obtain ⟨e1, e2⟩ := hSw; go_simp <;> with_reducible rfl
  simp only [Act.put, qA, qB, qC, qD, qE, qF]
  refine wpAnyH_take (i := 5) (v := ?_) rfl (by kernel_rfl) (by kernel_rfl) (by kernel_rfl) (fun _ _ _ h => h) (Or.inl ⟨by rfl, ?_⟩) (by assumption) ?_
  rotate_left
  · intro w' hSw; obtain ⟨e1, e2⟩ := hSw; go_simp <;> with_reducible rfl
  simp only [Act.put, qA, qB, qC, qD, qE, qF]
  have KD := hide ((unhide HK1).drew)
  clear HK1
  refine wpAnyH_ready (rs := [6]) (by kernel_rfl) (by simp) ?_
  refine AllReadyH.cons rfl (fun K hK => ?_) AllReadyH.nil
  go_simp
  refine (kindByte_any c.b2 metaL _ w1.drew (unhide KD).maps.2.1).mono ?_
  rintro e w0 ⟨rfl, rfl⟩
  refine hK.out _ _ ⟨d0, d4⟩ (fun hHeld => ?_)
  clear hK K
  refine wpAnyH_ready (rs := [7]) (by kernel_rfl) (by simp) ?_
  refine AllReadyH.cons rfl (fun K hK => ?_) AllReadyH.nil
  go_simp
  refine (press_dk c.D c.base c.keep [] false ks _ _ _ (kindOf metaL _) w1.drew (unhide KD).dk hl).mono ?_
  rintro e w3 ⟨rfl, hd, hf⟩
  have k3 := (unhide KD).go hf hd
  have e1 := k3.sts.2.2.2.2.2.2.2.1.cell
  obtain ⟨_, _, _, hB3, _⟩ := id k3.dk
  have HK3 := hide k3
  have HF3 : Hid (FrD c.D c.base c.keep w w3) := hide (Fr.tr (unhide HF) (Fr.tr (Fr.of_ext ((Ext.refl w1).drew)) hf))
  refine hK.out _ _ ⟨k3.sts.2.2.2.2.2.2.1.cell, cells_of hB3 4 _ rfl⟩ (fun hHeld => ?_)
  clear hK K hd hf k3 hB3
  refine wpAnyH_done (by kernel_rfl) ?_ _
  go_wp2
  exact bodyPost_ret (v := c.ground) (by simp [results, Tryd.results107, go_sem, Kc.ground]) rfl ⟨rfl, unhide HK3, unhide HF3⟩
end Go.Proofs.YtbieoijeilhadaaDoor

namespace Go.Proofs.YtbieoijeilhadaaDoor
open Go.RowKit Go.Maps
set_option maxRecDepth 10000 in
set_option maxHeartbeats 4000000 in
theorem endWith_kw (c : Kc) (b : Int) (h : List Int) (ks : List (List Int × Int)) (w : World) (k : KW w c h false ks) (hl : h.length ≤ 4194304) (h2 : 2 ≤ h.length) :
    Calls Tryd.prog 105 #[ptr c.D, .int .u8 b] w fun e w' => e = .returned (.string (toBA ((h ++ [b]).drop 2))) ∧ KW w' c [] false ks ∧ FrD c.D c.base c.keep w w' := by
  have HH := hide (hold_dk c.D c.base c.keep h false ks _ _ _ b w k.dk hl)
  have HK := hide k
  clear k
  go_enter Tryd.func105, Tryd.ntmps105
  go_wp2_with fail
  refine (unhide HH).mono ?_
  rintro e w1 ⟨rfl, hd, hf⟩
  have k1 := (unhide HK).go hf hd
  have HR := hide (release_dk c.D c.base c.keep (h ++ [b]) false ks _ _ _ w1 k1.dk)
  have HK1 := hide k1
  have HF := hide hf
  clear hd hf k1 HH HK
  go_wp2_with fail
  refine (unhide HR).mono ?_
  rintro e w2 ⟨⟨hv, rfl, ho⟩, hd, hf⟩
  have k2 := (unhide HK1).go hf hd
  have HF2 : Hid (FrD c.D c.base c.keep w w2) := hide (Fr.tr (unhide HF) hf)
  have HK2 := hide k2
  obtain ⟨va, vc, rfl, hcap, hr⟩ := ints_of_owns ho
  obtain ⟨g, off, rfl, hc⟩ := hr (by simp)
  have hlen : (h ++ [b]).length = h.length + 1 := by simp
  have hI := ints_cut (w := w2) (bs := h ++ [b]) (b := g) (off := off) (cap := vc - 2) 2 (h.length - 1) hc (by omega) (by omega)
  have htk : ((h ++ [b]).drop 2).take (h.length - 1) = (h ++ [b]).drop 2 := by rw [List.take_of_length_le]; rw [List.length_drop]; omega
  rw [htk] at hI
  have hcv := run_b2s (P := Tryd.prog) w2 _ _ _ Tryd.underlying22 Tryd.underlying5 Tryd.underlying9 _ _ hI
  have hv3 : ¬ vc = 2 := by omega
  have hv4 : ¬ (vc : Int) = 2 := by omega
  clear hd hf k2 HR ho hc hr hlen hI htk
  go_wp2
  exact bodyPost_ret (v := .string (toBA ((h ++ [b]).drop 2))) (by simp [results, Tryd.results105, go_sem]) rfl ⟨rfl, unhide HK2, unhide HF2⟩
end Go.Proofs.YtbieoijeilhadaaDoor

namespace Go.Proofs.YtbieoijeilhadaaDoor
open Go.RowKit Go.Maps
set_option linter.unusedSimpArgs false in
set_option maxRecDepth 10000 in
set_option maxHeartbeats 4000000 in
theorem single_any (c : Kc) (b : Int) (ks : List (List Int × Int)) (w : World) (k : KW w c [27, 79] false ks) (hl : ks.length ≤ 4194304) :
    Calls Tryd.prog 103 #[.int .u8 b, ptr c.t, ptr (c.t + 1)] w fun e w' => Stp c [] false (ks ++ [([], kindOf endsL (toBA [b]))]) w c.ground e w' := by
  have d0 := k.sts.2.2.2.2.2.2.1.cell
  obtain ⟨_, _, _, hB, _⟩ := id k.dk
  have d4 := cells_of hB 5 _ rfl
  have HK := hide k
  clear hB k
  go_enter Tryd.func103, Tryd.ntmps103
  go_upto_region 1 with fail
  refine wp_region_held_drew (S := fun W => W.cell? ⟨c.t, 0, none⟩ = some (ptr c.D) ∧ W.cell? ⟨c.D, 5, none⟩ = some (.map (some c.b3))) (by kernel_rfl) ⟨d0, d4⟩ (fun hHeld => ?_)
  refine wpAnyH_take (i := 0) (v := ?_) rfl (by kernel_rfl) (by kernel_rfl) (by kernel_rfl) (fun _ _ _ h => h) (Or.inl ⟨by rfl, ?_⟩) (by assumption) ?_
  rotate_left
  · intro w' hSw; obtain ⟨e1, e2⟩ := hSw; go_simp <;> with_reducible rfl
  simp only [Act.put, qA, qB, qC, qD, qE, qF]
  refine wpAnyH_take (i := 1) (v := ?_) rfl (by kernel_rfl) (by kernel_rfl) (by kernel_rfl) (fun _ _ _ h => h) (Or.inl ⟨by rfl, ?_⟩) (by assumption) ?_
  rotate_left
  · intro w' hSw; obtain ⟨e1, e2⟩ := hSw; go_simp <;> with_reducible rfl
  simp only [Act.put, qA, qB, qC, qD, qE, qF]
  refine wpAnyH_take (i := 2) (v := ?_) rfl (by kernel_rfl) (by kernel_rfl) (by kernel_rfl) (fun _ _ _ h => h) (Or.inl ⟨by rfl, ?_⟩) (by assumption) ?_
  rotate_left
  · intro w' hSw; obtain ⟨e1, e2⟩ := hSw; go_simp <;> with_reducible rfl
  simp only [Act.put, qA, qB, qC, qD, qE, qF]
  refine wpAnyH_take (i := 3) (v := ?_) rfl (by kernel_rfl) (by kernel_rfl) (by kernel_rfl) (fun _ _ _ h => h) (Or.inl ⟨by rfl, ?_⟩) (by assumption) ?_
  rotate_left
  · intro w' hSw; obtain ⟨e1, e2⟩ := hSw; go_simp <;> with_reducible rfl
  simp only [Act.put, qA, qB, qC, qD, qE, qF]
  refine wpAnyH_take (i := 4) (v := ?_) rfl (by kernel_rfl) (by kernel_rfl) (by kernel_rfl) (fun _ _ _ h => h) (Or.inl ⟨by rfl, ?_⟩) (by assumption) ?_
  rotate_left
  · intro w' hSw; obtain ⟨e1, e2⟩ := hSw; go_simp <;> with_reducible rfl
  simp only [Act.put, qA, qB, qC, qD, qE, qF]
  refine wpAnyH_take (i := 5) (v := ?_) rfl (by kernel_rfl) (by kernel_rfl) (by kernel_rfl) (fun _ _ _ h => h) (Or.inl ⟨by rfl, ?_⟩) (by assumption) ?_
  rotate_left
  · intro w' hSw; obtain ⟨e1, e2⟩ := hSw; go_simp <;> with_reducible rfl
  simp only [Act.put, qA, qB, qC, qD, qE, qF]
  refine wpAnyH_take (i := 6) (v := ?_) rfl (by kernel_rfl) (by kernel_rfl) (by kernel_rfl) (fun _ _ _ h => h) (Or.inl ⟨by rfl, ?_⟩) (by assumption) ?_
  rotate_left
  · intro w' hSw; obtain ⟨e1, e2⟩ := hSw; go_simp <;> with_reducible rfl
  simp only [Act.put, qA, qB, qC, qD, qE, qF]
  have KD := hide ((unhide HK).drew)
  clear HK
  refine wpAnyH_ready (rs := [7]) (by kernel_rfl) (by simp) ?_
  refine AllReadyH.cons rfl (fun K hK => ?_) AllReadyH.nil
  go_simp
  refine (endWith_kw c b [27, 79] ks w.drew (unhide KD) (by simp) (by simp)).mono ?_
  rintro e w1 ⟨rfl, k1, f1⟩
  obtain ⟨_, _, _, hB1, _⟩ := id k1.dk
  have HK1 := hide k1
  have HF1 : Hid (FrD c.D c.base c.keep w w1) := hide (Fr.tr (Fr.of_ext ((Ext.refl w).drew)) f1)
  refine hK.out _ _ ⟨k1.sts.2.2.2.2.2.2.1.cell, cells_of hB1 5 _ rfl⟩ (fun hHeld => ?_)
  have d1 := k1.sts.2.2.2.2.2.2.1.cell
  have d2 := cells_of hB1 5 _ rfl
  clear hK K k1 f1 hB1
  refine wpAnyH_ready (rs := [8]) (by kernel_rfl) (by simp) ?_
  refine AllReadyH.cons rfl (fun K hK => ?_) AllReadyH.nil
  go_simp
  refine (kindStr_any c.b3 endsL _ w1 (unhide HK1).maps.2.2).mono ?_
  rintro e w0 ⟨rfl, rfl⟩
  refine hK.out _ _ ⟨d1, d2⟩ (fun hHeld => ?_)
  clear hK K
  refine wpAnyH_ready (rs := [9]) (by kernel_rfl) (by simp) ?_
  refine AllReadyH.cons rfl (fun K hK => ?_) AllReadyH.nil
  go_simp
  refine (press_dk c.D c.base c.keep [] false ks _ _ _ (kindOf endsL _) w0 (unhide HK1).dk hl).mono ?_
  rintro e w3 ⟨rfl, hd, hf⟩
  have k3 := (unhide HK1).go hf hd
  have e1 := k3.sts.2.2.2.2.2.2.2.1.cell
  obtain ⟨_, _, _, hB3, _⟩ := id k3.dk
  have HK3 := hide k3
  have HF3 : Hid (FrD c.D c.base c.keep w w3) := hide (Fr.tr (unhide HF1) hf)
  refine hK.out _ _ ⟨k3.sts.2.2.2.2.2.2.1.cell, cells_of hB3 5 _ rfl⟩ (fun hHeld => ?_)
  clear hK K hd hf k3 hB3
  refine wpAnyH_done (by kernel_rfl) ?_ _
  go_wp2
  exact bodyPost_ret (v := c.ground) (by simp [results, Tryd.results103, go_sem, Kc.ground]) rfl ⟨rfl, unhide HK3, unhide HF3⟩
end Go.Proofs.YtbieoijeilhadaaDoor
