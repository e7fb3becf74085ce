import Derived.Test.YtbieoijeilhadaaDoorKmZ
namespace Go.Proofs.YtbieoijeilhadaaDoor
open Go.RowKit Go.Maps
set_option maxHeartbeats 1000000 in
theorem isBetween_any (b : Int) (w : World) : Calls Tryd.prog 119 #[.int .u8 b] w fun e w' => e = .returned (.bool (decide (48 ≤ b) && decide (b ≤ 63))) ∧ w' = w := by
  by_cases h1 : 48 ≤ b
  · by_cases h2 : b ≤ 63
    · go_enter Tryd.func119, Tryd.ntmps119
      go_wp2
      go_ret
      exact ⟨by simp [h1, h2], rfl⟩
    · go_enter Tryd.func119, Tryd.ntmps119
      go_wp2
      go_ret
      exact ⟨by simp [h2]; try omega, rfl⟩
  · go_enter Tryd.func119, Tryd.ntmps119
    go_wp2
    go_ret
    exact ⟨by simp; try omega, rfl⟩
set_option maxHeartbeats 1000000 in
theorem isLast_any (b : Int) (w : World) : Calls Tryd.prog 120 #[.int .u8 b] w fun e w' => e = .returned (.bool (decide (64 ≤ b) && decide (b ≤ 126))) ∧ w' = w := by
  by_cases h1 : 64 ≤ b
  · by_cases h2 : b ≤ 126
    · go_enter Tryd.func120, Tryd.ntmps120
      go_wp2
      go_ret
      exact ⟨by simp [h1, h2], rfl⟩
    · go_enter Tryd.func120, Tryd.ntmps120
      go_wp2
      go_ret
      exact ⟨by simp [h2]; try omega, rfl⟩
  · go_enter Tryd.func120, Tryd.ntmps120
    go_wp2
    go_ret
    exact ⟨by simp; try omega, rfl⟩
set_option maxRecDepth 10000 in
set_option maxHeartbeats 4000000 in
theorem between_more (c : Kc) (b : Int) (h : List Int) (ks : List (List Int × Int)) (w : World) (k : KW w c h false ks) (hl : h.length ≤ 4194304) (h1 : 48 ≤ b) (h2 : b ≤ 63) :
    Calls Tryd.prog 118 #[.int .u8 b, ptr c.y, ptr (c.y + 3), ptr (c.y + 1), ptr (c.y + 2)] w fun e w' => Stp c (h ++ [b]) false ks w (betweenF c.y) e w' := by
  have d0 := k.sts.2.2.2.2.2.2.2.2.2.2.1.cell
  have HH := hide (hold_dk c.D c.base c.keep h false ks _ _ _ b w k.dk hl)
  have HK := hide k
  have HI := hide (isBetween_any b w)
  have hq : (decide (48 ≤ b) && decide (b ≤ 63)) = true := by simp [h1, h2]
  rw [hq] at HI
  clear k hq
  go_enter Tryd.func118, Tryd.ntmps118
  go_wp2_with fail
  refine (unhide HI).mono ?_
  rintro e w0 ⟨rfl, rfl⟩
  go_wp2_with fail
  refine (unhide HH).mono ?_
  rintro e w1 ⟨rfl, hd, hf⟩
  have k1 := (unhide HK).go hf hd
  have e1 := k1.sts.2.2.2.2.2.2.2.2.2.2.2.2.2.cell
  have HK1 := hide k1
  have HF := hide hf
  clear hd hf k1 HH
  go_wp2
  exact bodyPost_ret (v := betweenF c.y) (by simp [results, Tryd.results118, go_sem]) rfl ⟨rfl, unhide HK1, unhide HF⟩
set_option maxRecDepth 10000 in
set_option maxHeartbeats 4000000 in
theorem between_bad (c : Kc) (b : Int) (h : List Int) (ks : List (List Int × Int)) (w : World) (k : KW w c h false ks) (hl : ks.length ≤ 4194304) (h1 : ¬ (48 ≤ b ∧ b ≤ 63)) (h2 : ¬ (64 ≤ b ∧ b ≤ 126)) (h' : List Int) (p' : Bool) (ks' : List (List Int × Int)) (v : Value)
    (hg : ∀ w', KW w' c [] false (ks ++ [([], 23)]) → Calls Tryd.prog 72 #[.int .u8 b, ptr c.q, ptr (c.q + 3), ptr (c.q + 2), ptr (c.q + 1)] w' (Stp c h' p' ks' w' v)) :
    Calls Tryd.prog 118 #[.int .u8 b, ptr c.y, ptr (c.y + 3), ptr (c.y + 1), ptr (c.y + 2)] w fun e w' => Stp c h' p' ks' w v e w' := by
  have d0 := k.sts.2.2.2.2.2.2.2.2.2.2.1.cell
  have HH := hide (release_dk c.D c.base c.keep h false ks _ _ _ w k.dk)
  have HK := hide k
  have HI := hide (isBetween_any b w)
  have HJ := hide (isLast_any b w)
  have hq : (decide (48 ≤ b) && decide (b ≤ 63)) = false := by simp; omega
  have hr : (decide (64 ≤ b) && decide (b ≤ 126)) = false := by simp; omega
  rw [hq] at HI
  rw [hr] at HJ
  have HG := hide hg
  clear k hq hr hg
  go_enter Tryd.func118, Tryd.ntmps118
  go_wp2_with fail
  refine (unhide HI).mono ?_
  rintro e w0 ⟨rfl, rfl⟩
  go_wp2_with fail
  refine (unhide HJ).mono ?_
  rintro e w4 ⟨rfl, rfl⟩
  go_wp2_with fail
  refine (unhide HH).mono ?_
  rintro e w1 ⟨⟨hv, rfl, _⟩, hd, hf⟩
  have k1 := (unhide HK).go hf hd
  have e1 := k1.sts.2.2.2.2.2.2.2.2.2.2.1.cell
  have HP := hide (press_dk c.D c.base c.keep [] false ks _ _ _ 23 w1 k1.dk hl)
  have HK1 := hide k1
  have HF := hide hf
  clear hd hf k1 HH
  go_wp2_with fail
  refine (unhide HP).mono ?_
  rintro e w2 ⟨rfl, hd, hf⟩
  have k2 := (unhide HK1).go hf hd
  have e2 : w2.cell? ⟨c.y + 1, 0, none⟩ = some (.func (.func 72) #[] #[ptr c.q, ptr (c.q + 3), ptr (c.q + 2), ptr (c.q + 1)]) := k2.sts.2.2.2.2.2.2.2.2.2.2.2.1.cell
  have HG2 := hide ((unhide HG) w2 k2)
  have HF2 := hide (Fr.tr (unhide HF) hf)
  clear hd hf k2 HP HF
  go_wp2_with fail
  refine (unhide HG2).mono ?_
  rintro e w3 ⟨rfl, k3, f3⟩
  have HK3 := hide k3
  have HF3 := hide (Fr.tr (unhide HF2) f3)
  clear k3 f3 HG2 HF2
  go_wp2
  exact bodyPost_ret (v := v) (by simp [results, Tryd.results118, go_sem]) rfl ⟨rfl, unhide HK3, unhide HF3⟩
set_option linter.unusedSimpArgs false in
set_option maxRecDepth 10000 in
set_option maxHeartbeats 4000000 in
theorem between_key (c : Kc) (b : Int) (h : List Int) (ks : List (List Int × Int)) (w : World) (k : KW w c h false ks) (hl : ks.length ≤ 4194304) (hh : h.length ≤ 4194304) (h2 : 2 ≤ h.length) (h3 : 64 ≤ b ∧ b ≤ 126) (hn : ¬ (toBA ((h ++ [b]).drop 2)).toList = (toBA [50, 48, 48, 126]).toList) :
    Calls Tryd.prog 118 #[.int .u8 b, ptr c.y, ptr (c.y + 3), ptr (c.y + 1), ptr (c.y + 2)] w fun e w' => Stp c [] false (ks ++ [([], kindOf endsL (toBA ((h ++ [b]).drop 2)))]) w c.ground e w' := by
  have d0 := k.sts.2.2.2.2.2.2.2.2.2.2.1.cell
  have HE := hide (endWith_kw c b h ks w k hh h2)
  have HI := hide (isBetween_any b w)
  have HJ := hide (isLast_any b w)
  have hq : (decide (48 ≤ b) && decide (b ≤ 63)) = false := by simp; omega
  have hr : (decide (64 ≤ b) && decide (b ≤ 126)) = true := by simp; omega
  rw [hq] at HI
  rw [hr] at HJ
  obtain ⟨T, hT⟩ : ∃ T, T = toBA ((h ++ [b]).drop 2) := ⟨_, rfl⟩
  rw [← hT] at HE hn ⊢
  have n1 : ¬ T.toList = ({ data := #[50, 48, 48, 126] } : ByteArray).toList := hn
  have hlit : ({ data := #[50, 48, 48, 126] } : ByteArray).toList = [50, 48, 48, 126] := by rw [baListK]
  rw [hlit] at n1
  have n2 : (T.toList == [50, 48, 48, 126]) = false := by rw [beq_eq_false_iff_ne]; exact n1
  clear k hq hr hn hT hlit
  go_enter Tryd.func118, Tryd.ntmps118
  go_wp2_with fail
  refine (unhide HI).mono ?_
  rintro e w0 ⟨rfl, rfl⟩
  go_wp2_with fail
  refine (unhide HJ).mono ?_
  rintro e w4 ⟨rfl, rfl⟩
  go_wp2_with fail
  refine (unhide HE).mono ?_
  rintro e w1 ⟨rfl, k1, f1⟩
  have e1 := k1.sts.2.2.2.2.2.2.2.2.2.2.1.cell
  obtain ⟨_, _, _, hB, _⟩ := id k1.dk
  have d4 := cells_of hB 5 _ rfl
  have HK1 := hide k1
  have HF := hide f1
  clear f1 k1 HE hB d0
  go_upto_region 12 with fail
  refine wp_region_held_drew (S := fun W => W.cell? ⟨c.y, 0, none⟩ = some (ptr c.D) ∧ W.cell? ⟨c.D, 5, none⟩ = some (.map (some c.b3))) (by kernel_rfl) ⟨e1, d4⟩ (fun hHeld => ?_)
  refine wpAnyH_take (i := 0) (v := ?_) rfl (by kernel_rfl) (by kernel_rfl) (by kernel_rfl) (fun _ _ _ h => h) (Or.inl ⟨by rfl, ?_⟩) (by assumption) ?_
  rotate_left
  · intro w' hSw; obtain ⟨q1, q2⟩ := hSw; go_simp <;> with_reducible rfl
  simp only [Act.put, qA, qB, qC, qD, qE, qF]
  refine wpAnyH_take (i := 1) (v := ?_) rfl (by kernel_rfl) (by kernel_rfl) (by kernel_rfl) (fun _ _ _ h => h) (Or.inl ⟨by rfl, ?_⟩) (by assumption) ?_
  rotate_left
  · intro w' hSw; obtain ⟨q1, q2⟩ := hSw; go_simp <;> with_reducible rfl
  simp only [Act.put, qA, qB, qC, qD, qE, qF]
  refine wpAnyH_take (i := 2) (v := ?_) rfl (by kernel_rfl) (by kernel_rfl) (by kernel_rfl) (fun _ _ _ h => h) (Or.inl ⟨by rfl, ?_⟩) (by assumption) ?_
  rotate_left
  · intro w' hSw; obtain ⟨q1, q2⟩ := hSw; go_simp <;> with_reducible rfl
  simp only [Act.put, qA, qB, qC, qD, qE, qF]
  refine wpAnyH_take (i := 3) (v := ?_) rfl (by kernel_rfl) (by kernel_rfl) (by kernel_rfl) (fun _ _ _ h => h) (Or.inl ⟨by rfl, ?_⟩) (by assumption) ?_
  rotate_left
  · intro w' hSw; obtain ⟨q1, q2⟩ := hSw; go_simp <;> with_reducible rfl
  simp only [Act.put, qA, qB, qC, qD, qE, qF]
  refine wpAnyH_take (i := 4) (v := ?_) rfl (by kernel_rfl) (by kernel_rfl) (by kernel_rfl) (fun _ _ _ h => h) (Or.inl ⟨by rfl, ?_⟩) (by assumption) ?_
  rotate_left
  · intro w' hSw; obtain ⟨q1, q2⟩ := hSw; go_simp <;> with_reducible rfl
  simp only [Act.put, qA, qB, qC, qD, qE, qF]
  refine wpAnyH_take (i := 5) (v := ?_) rfl (by kernel_rfl) (by kernel_rfl) (by kernel_rfl) (fun _ _ _ h => h) (Or.inl ⟨by rfl, ?_⟩) (by assumption) ?_
  rotate_left
  · intro w' hSw; obtain ⟨q1, q2⟩ := hSw; go_simp <;> with_reducible rfl
  simp only [Act.put, qA, qB, qC, qD, qE, qF]
  have KD := hide ((unhide HK1).drew)
  clear HK1
  refine wpAnyH_ready (rs := [6]) (by kernel_rfl) (by simp) ?_
  refine AllReadyH.cons rfl (fun K hK => ?_) AllReadyH.nil
  go_simp
  refine (kindStr_any c.b3 endsL _ w1.drew (unhide KD).maps.2.2).mono ?_
  rintro e w0 ⟨rfl, rfl⟩
  refine hK.out _ _ ⟨e1, d4⟩ (fun hHeld => ?_)
  clear hK K
  refine wpAnyH_ready (rs := [7]) (by kernel_rfl) (by simp) ?_
  refine AllReadyH.cons rfl (fun K hK => ?_) AllReadyH.nil
  go_simp
  refine (press_dk c.D c.base c.keep [] false ks _ _ _ (kindOf endsL _) w1.drew (unhide KD).dk hl).mono ?_
  rintro e w3 ⟨rfl, hd, hf⟩
  have k3 := (unhide KD).go hf hd
  have g1 := k3.sts.2.2.2.2.2.2.2.2.2.2.2.1.cell
  obtain ⟨_, _, _, hB3, _⟩ := id k3.dk
  have HK3 := hide k3
  have HF3 := hide (Fr.tr (unhide HF) (Fr.tr (Fr.of_ext ((Ext.refl w1).drew)) hf))
  refine hK.out _ _ ⟨k3.sts.2.2.2.2.2.2.2.2.2.2.1.cell, cells_of hB3 5 _ rfl⟩ (fun hHeld => ?_)
  clear hK K hd hf k3 hB3
  refine wpAnyH_done (by kernel_rfl) ?_ _
  go_wp2
  exact bodyPost_ret (v := c.ground) (by simp [results, Tryd.results118, go_sem, Kc.ground]) rfl ⟨rfl, unhide HK3, unhide HF3⟩
theorem dk_paste {w : World} {D base : Nat} {X : Nat → Prop} {h : List Int} {p p' : Bool} {ks : List (List Int × Int)} {m1 m2 m3 : Value} (H : DkAt w D base X h p ks m1 m2 m3) : DkAt (w.setCell ⟨D, 1, none⟩ (.bool p')) D base X h p' ks m1 m2 m3 ∧ FrD D base X w (w.setCell ⟨D, 1, none⟩ (.bool p')) := by
  obtain ⟨hv, kv, rs, hB, hO, hK, hD, hz, hX⟩ := H
  have fs : Fr (fun q => q = D) w (w.setCell ⟨D, 1, none⟩ (.bool p')) := Fr.setCell (S := fun q => q = D) (Fr.refl _ _) (a := ⟨D, 1, none⟩) rfl _
  have hs := fs.size
  exact ⟨⟨hv, kv, rs, set_blk2 hB rfl, fs.owns hO (fun g hg e => by have := (hO.lt g hg).1; omega), OwnKys.fr hK fs (fun g hg e => by have := (hK.foot hg).1; omega), hD, by omega, fun k hk => ⟨by have := (hX k hk).1; omega, (hX k hk).2⟩⟩, Fr.mono fs (fun k hk => .inl hk)⟩
set_option maxRecDepth 10000 in
set_option maxHeartbeats 4000000 in
theorem between_paste (c : Kc) (b : Int) (h : List Int) (ks : List (List Int × Int)) (w : World) (k : KW w c h false ks) (hh : h.length ≤ 4194304) (h2 : 2 ≤ h.length) (h3 : 64 ≤ b ∧ b ≤ 126) (hn : (h ++ [b]).drop 2 = [50, 48, 48, 126]) :
    Calls Tryd.prog 118 #[.int .u8 b, ptr c.y, ptr (c.y + 3), ptr (c.y + 1), ptr (c.y + 2)] w fun e w' => Stp c [] true ks w (pastedF c.s) e w' := by
  have d0 := k.sts.2.2.2.2.2.2.2.2.2.2.1.cell
  have HE := hide (endWith_kw c b h ks w k hh h2)
  have HI := hide (isBetween_any b w)
  have HJ := hide (isLast_any b w)
  have hq : (decide (48 ≤ b) && decide (b ≤ 63)) = false := by simp; omega
  have hr : (decide (64 ≤ b) && decide (b ≤ 126)) = true := by simp; omega
  rw [hq] at HI
  rw [hr] at HJ
  rw [hn] at HE
  obtain ⟨T, hT⟩ : ∃ T, T = toBA [50, 48, 48, 126] := ⟨_, rfl⟩
  rw [← hT] at HE
  have n1 : T.toList = [50, 48, 48, 126] := by rw [hT, baListK]; rfl
  have n2 : (T.toList == [50, 48, 48, 126]) = true := by rw [n1]; rfl
  clear k hq hr hn hT n1
  go_enter Tryd.func118, Tryd.ntmps118
  go_wp2_with fail
  refine (unhide HI).mono ?_
  rintro e w0 ⟨rfl, rfl⟩
  go_wp2_with fail
  refine (unhide HJ).mono ?_
  rintro e w4 ⟨rfl, rfl⟩
  go_wp2_with fail
  refine (unhide HE).mono ?_
  rintro e w1 ⟨rfl, k1, f1⟩
  have e1 := k1.sts.2.2.2.2.2.2.2.2.2.2.1.cell
  obtain ⟨_, _, _, hB, _⟩ := id k1.dk
  have d4 := cells_of hB 1 _ rfl
  have d5 : w1.frozen? ⟨c.D, 1, none⟩ = false := Lib.frozen_of_heap hB 1
  obtain ⟨hd, hf⟩ := dk_paste (p' := true) k1.dk
  have k2 := k1.go hf hd
  have e2 := k2.sts.2.2.2.2.2.2.2.2.2.2.2.2.1.cell
  have HK2 := hide k2
  have HF2 := hide (Fr.tr f1 hf)
  clear f1 k1 k2 HE hB d0 hd hf
  go_wp2
  exact bodyPost_ret (v := pastedF c.s) (by simp [results, Tryd.results118, go_sem]) rfl ⟨rfl, unhide HK2, unhide HF2⟩
end Go.Proofs.YtbieoijeilhadaaDoor
