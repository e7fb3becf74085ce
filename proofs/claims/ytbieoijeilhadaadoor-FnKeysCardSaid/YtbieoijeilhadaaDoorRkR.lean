import Derived.Test.YtbieoijeilhadaaDoorKmH
import Derived.Test.YtbieoijeilhadaaDoorImplClean
import Derived.Test.YtbieoijeilhadaaDoorApp
import Derived.Test.YtbieoijeilhadaaDoorKmZ
namespace Go.Proofs.YtbieoijeilhadaaDoor
open Go.RowKit Go.Maps
theorem owns_base {w : World} {b1 b2 : Nat} {e : TypeId} {size : Nat} {v : Value} {n : Nat} {xs : List Value} (h : w.ownsRow b1 e size v n xs) (hb : b2 ≤ b1) : w.ownsRow b2 e size v n xs := by
  refine ⟨h.1, ?_⟩
  rcases h.2 with h0 | ⟨g, cap, cur, h1, h2, h3⟩
  · exact .inl h0
  · exact .inr ⟨g, cap, cur, h1, Nat.le_trans hb h2, h3⟩
theorem pEnd_len (s : List Int) (h : pEnd s = true) : 6 ≤ s.length := by
  unfold pEnd at h
  rw [List.isSuffixOf_iff_suffix] at h
  exact h.length_le
set_option linter.unusedSimpArgs false in
set_option maxRecDepth 10000 in
set_option maxHeartbeats 4000000 in
theorem pasted_end (c : Kc) (b : Int) (h : List Int) (ks : List (List Int × Int)) (w : World) (k : KW w c h true ks) (hl : h.length ≤ 4194304) (hkl : ks.length ≤ 4194304) (hb : Bytes (h ++ [b])) (hn : pEnd (h ++ [b]) = true) :
    Calls Tryd.prog 101 #[.int .u8 b, ptr c.s, ptr (c.s + 2), ptr (c.s + 1)] w fun e w' => Stp c [] false (ks ++ [(cleanL ((h ++ [b]).take (h.length - 5)), 2)]) w c.ground e w' := by
  obtain ⟨ic, hic, hc0, hc1, hc2⟩ := info_parts infoKey
  have hlen := pEnd_len _ hn
  rw [List.length_append] at hlen
  simp only [List.length_singleton] at hlen
  have okk := k.ok
  have d0 := k.sts.2.2.2.2.2.1.1.cell
  have HH := hide (hold_dk c.D c.base c.keep h true ks _ _ _ b w k.dk hl)
  have HK := hide k
  clear k
  go_enter Tryd.func101, Tryd.ntmps101
  go_wp2_with fail
  refine (unhide HH).mono ?_
  rintro e w1 ⟨rfl, hd, hf⟩
  have k1 := (unhide HK).go hf hd
  have e0 := k1.sts.2.2.2.2.2.1.1.cell
  obtain ⟨hv, kv, rs, hB, hO, _⟩ := id k1.dk
  have e1 := cells_of hB 0 _ rfl
  have HK1 := hide k1
  have HF := hide hf
  have HO := hide hO
  clear hd hf k1 HH hB hO
  have hcv := fun C n cc => Lib.run_convert_bytes_const (P := Tryd.prog) w1 22 5 C n cc Tryd.underlying22 Tryd.underlying5
  have E2 := (Ext.refl w1).alloc (.cells #[.int .u8 27, .int .u8 91, .int .u8 50, .int .u8 48, .int .u8 49, .int .u8 126] 5 (6, 7))
  have n2 := new_block w1 (.cells #[.int .u8 27, .int .u8 91, .int .u8 50, .int .u8 48, .int .u8 49, .int .u8 126] 5 (6, 7))
  obtain ⟨w2, hw2⟩ : ∃ w2, w2 = w1.alloc (.cells #[.int .u8 27, .int .u8 91, .int .u8 50, .int .u8 48, .int .u8 49, .int .u8 126] 5 (6, 7)) := ⟨_, rfl⟩
  rw [← hw2] at E2 n2
  have hPE : IntsAt w2 .u8 (.slice (some ⟨w1.heap.size, 0, none⟩) 6 6) PE := ⟨_, _, rfl, by decide, fun _ => ⟨_, _, rfl, fun j hj => cells_of n2 (0 + j) _ (by
    have hj6 : j < 6 := hj
    match j, hj6 with
    | 0, _ => rfl
    | 1, _ => rfl
    | 2, _ => rfl
    | 3, _ => rfl
    | 4, _ => rfl
    | 5, _ => rfl)⟩⟩
  have k2 := (unhide HK1).ext E2
  have HS := hide (hasSuffix_any (h ++ [b]) hb hv _ w2 (ints_of_owns (E2.owns (unhide HO))) hPE (by simp; omega))
  rw [hn] at HS
  have e3 := k2.sts.2.2.2.2.2.1.1.cell
  have HK2 := hide k2
  have HF2 := hide (Fr.tr (unhide HF) (Fr.of_ext E2))
  have HW2 := hide hw2
  clear E2 n2 hPE k2 hw2 HF HO HK1
  go_wp2_with fail
  rw [← unhide HW2]
  refine (unhide HS).mono ?_
  rintro e w3 ⟨rfl, rfl⟩
  clear HS HW2 hcv
  have HR2 := hide (release_dk c.D c.base c.keep (h ++ [b]) true ks _ _ _ w3 (unhide HK2).dk)
  go_wp2_with fail
  refine (unhide HR2).mono ?_
  rintro e w4 ⟨⟨hv4, rfl, ho4⟩, hd4, hf4⟩
  clear HR2
  have k4 := (unhide HK2).go hf4 hd4
  obtain ⟨hd5, hf5⟩ := dk_paste (p' := false) hd4
  have k5 := k4.go hf5 hd5
  obtain ⟨_, _, _, hB4, _⟩ := id hd4
  have d4 := cells_of hB4 1 _ rfl
  have d5 : w4.frozen? ⟨c.D, 1, none⟩ = false := Lib.frozen_of_heap hB4 1
  have e4 := k4.sts.2.2.2.2.2.1.1.cell
  have z4 := (unhide HK2).ok.d
  have ho5 : (w4.setCell ⟨c.D, 1, none⟩ (.bool false)).ownsRow c.base 5 1 hv4 (h ++ [b]).length ((h ++ [b]).map (Value.int .u8)) :=
    (Fr.setCell (S := fun q => q = c.D) (Fr.refl _ _) (a := ⟨c.D, 1, none⟩) rfl _).owns ho4 (fun g hg e => by have := (ho4.lt g hg).1; omega)
  have HF5 := hide (Fr.tr (Fr.tr (unhide HF2) hf4) hf5)
  obtain ⟨w5, hw5⟩ : ∃ w5, w5 = w4.setCell ⟨c.D, 1, none⟩ (.bool false) := ⟨_, rfl⟩
  rw [← hw5] at ho5 HF5 k5
  obtain ⟨g5, cap5, rfl⟩ : ∃ g cap, hv4 = .slice (some ⟨g, 0, none⟩) (h ++ [b]).length cap := by
    rcases ho5.2 with ⟨_, e0⟩ | ⟨g, cap, cur, e0, _⟩
    · simp at e0
    · exact ⟨g, cap, e0⟩
  have hcap : (h ++ [b]).length ≤ cap5 := by
    rcases ho5.2 with ⟨e0, _⟩ | ⟨g, cap, cur, e0, _, _, hnc, _⟩
    · simp at e0
    · simp only [Value.slice.injEq] at e0
      omega
  obtain ⟨hv6, kv6, rs6, hB6, hO6, hK6, hDb, hbz, hX6⟩ := id k5.dk
  have HX6 := hide hX6
  obtain ⟨h0', ⟨ys, hy, hyy⟩, hr, h4'⟩ := id hK6
  have HBS := hide k5.sts.2.2.2.2.2.1.1
  have HB6 := hide hB6
  have HOv := hide hO6
  have HK6 := hide hK6
  have HY := hide hy
  have HYY := hide hyy
  have HR := hide hr
  have HKW5 := hide k5
  have HW5 := hide hw5
  have hbx := k5.sts.2.2.2.2.2.1.1.cell
  have HM5 : Hid (IntsAt w5 .u8 (.slice (some ⟨g5, 0, none⟩) (h.length - 5) cap5) ((h ++ [b]).take (h.length - 5))) := hide (by
    obtain ⟨ao, cp, e, _, hrr⟩ := ints_of_owns ho5
    obtain ⟨b', off, e2, hc⟩ := hrr (by simp)
    simp only [e2, Value.slice.injEq, Option.some.injEq, Addr.mk.injEq] at e
    obtain ⟨⟨e3, e4, _⟩, _, _⟩ := e
    subst e3
    subst e4
    have := ints_cut (bs := h ++ [b]) (cap := cap5) 0 (h.length - 5) hc (by simp; omega) (by simp at hcap; omega)
    simpa using this)
  have hbm : Bytes ((h ++ [b]).take (h.length - 5)) := fun n hn => hb n (List.mem_of_mem_take hn)
  have hml : ((h ++ [b]).take (h.length - 5)).length ≤ 16777216 := by simp; omega
  have hln : (h ++ [b]).length = h.length + 1 := by simp
  clear hd4 hf4 hd5 hf5 k4 k5 hB4 hB6 hO6 hK6 hX6 hy hyy hr h4' ho4 ho5 hw5 HF2 HK2
  rw [hln] at hcap
  rw [hln]
  clear hln
  go_upto_region 6 with fail
  rw [← unhide HW5]
  clear HW5 e4 d4 d5
  have HE0 := hide ((Ext.refl w5).drew)
  refine wp_region_held_drew (S := fun W => W.cell? ⟨c.s, 0, none⟩ = some (ptr c.D)) (by kernel_rfl) hbx (fun hHeld => ?_)
  have HBX := hide (show w5.drew.cell? ⟨c.s, 0, none⟩ = some (ptr c.D) from hbx)
  have HC2 := hide (show w5.drew.cell? ⟨c.D, 2, none⟩ = some kv6 from cells_of (unhide HB6) 2 _ rfl)
  have HM : Hid (IntsAt w5.drew .u8 (.slice (some ⟨g5, 0, none⟩) (h.length - 5) cap5) ((h ++ [b]).take (h.length - 5))) := hide (unhide HM5)
  have hq5 : h.length ≤ cap5 + 5 := by omega
  have hsub : IntKind.i64.wrap ((h.length : Int) + 1 - 6) = ((h.length - 5 : Nat) : Int) := by rw [IntKind.wrap_i64] <;> omega
  generalize w5.drew = W0 at *
  refine wpAnyH_take (i := 0) (v := ?_) rfl (by kernel_rfl) (by kernel_rfl) (by kernel_rfl) (fun _ _ _ h => h) (Or.inl ⟨by rfl, ?_⟩) (by assumption) ?_
  rotate_left
  · intro w' hSw; go_simp <;> with_reducible rfl
  simp only [Act.put, qA, qB, qC, qD, qE, qF]
  refine wpAnyH_take (i := 1) (v := ?_) rfl (by kernel_rfl) (by kernel_rfl) (by kernel_rfl) (fun _ _ _ h => h) (Or.inl ⟨by rfl, ?_⟩) (by assumption) ?_
  rotate_left
  · intro w' hSw; go_simp <;> with_reducible rfl
  simp only [Act.put, qA, qB, qC, qD, qE, qF]
  refine wpAnyH_take (i := 2) (v := ?_) rfl (by kernel_rfl) (by kernel_rfl) (by kernel_rfl) (fun _ _ _ h => h) (Or.inl ⟨by rfl, ?_⟩) (by assumption) ?_
  rotate_left
  · intro w' hSw; go_simp <;> with_reducible rfl
  simp only [Act.put, qA, qB, qC, qD, qE, qF]
  refine wpAnyH_take (i := 3) (v := ?_) rfl (by kernel_rfl) (by kernel_rfl) (by kernel_rfl) (fun _ _ _ h => h) (Or.inl ⟨by rfl, ?_⟩) (by assumption) ?_
  rotate_left
  · intro w' hSw; go_simp <;> with_reducible rfl
  simp only [Act.put, qA, qB, qC, qD, qE, qF]
  refine wpAnyH_take (i := 5) (v := ?_) rfl (by kernel_rfl) (by kernel_rfl) (by kernel_rfl) (fun _ _ _ h => h) (Or.inl ⟨by rfl, ?_⟩) (by assumption) ?_
  rotate_left
  · intro w' hSw; go_simp <;> with_reducible rfl
  simp only [Act.put, qA, qB, qC, qD, qE, qF]
  refine wpAnyH_take (i := 6) (v := ?_) rfl (by kernel_rfl) (by kernel_rfl) (by kernel_rfl) (fun _ _ _ h => h) (Or.inl ⟨by rfl, ?_⟩) (by assumption) ?_
  rotate_left
  · intro w' hSw; go_simp <;> with_reducible rfl
  simp only [Act.put, qA, qB, qC, qD, qE, qF]
  refine wpAnyH_take (i := 7) (v := ?_) rfl (by kernel_rfl) (by kernel_rfl) (by kernel_rfl) (fun _ _ _ h => h) (Or.inl ⟨by rfl, ?_⟩) (by assumption) ?_
  rotate_left
  · intro w' hSw; go_simp <;> with_reducible rfl
  simp only [Act.put, qA, qB, qC, qD, qE, qF]
  refine wpAnyH_take (i := 8) (v := ?_) rfl (by kernel_rfl) (by kernel_rfl) (by kernel_rfl) (fun _ _ _ h => h) (Or.inl ⟨by rfl, ?_⟩) (by assumption) ?_
  rotate_left
  · intro w' hSw; go_simp <;> with_reducible rfl
  simp only [Act.put, qA, qB, qC, qD, qE, qF]
  refine wpAnyH_take (i := 9) (v := ?_) rfl (by kernel_rfl) (by kernel_rfl) (by kernel_rfl) (fun _ _ _ h => h) (Or.inl ⟨by rfl, ?_⟩) (by assumption) ?_
  rotate_left
  · intro w' hSw; go_simp <;> with_reducible rfl
  simp only [Act.put, qA, qB, qC, qD, qE, qF]
  refine wpAnyH_ready (rs := [4, 10]) (by kernel_rfl) (by simp) ?_
  refine AllReadyH.cons rfl (fun K hK => ?_) (AllReadyH.cons rfl (fun K hK => ?_) AllReadyH.nil)
  · have q4 := (unhide HC2)
    go_simp
    refine hK.out _ _ (unhide HBX) (fun hHeld => ?_)
    clear hK K
    clear q4
    refine wpAnyH_ready (rs := [10]) (by kernel_rfl) (by simp) ?_
    refine AllReadyH.cons rfl (fun K hK => ?_) AllReadyH.nil
    go_simp
    refine (implClean_any _ hbm _ W0 (unhide HM) hml).mono ?_
    rintro e W1 ⟨cv, rfl, hcv1, E1⟩
    obtain ⟨ca, cc, rfl⟩ : ∃ a cc, cv = .slice a (cleanL ((h ++ [b]).take (h.length - 5))).length cc := by
      rcases hcv1.2 with ⟨rfl, e0⟩ | ⟨g, cap, cur, rfl, _⟩
      · exact ⟨none, 0, by rw [e0]⟩
      · exact ⟨_, _, rfl⟩
    have HC1 := hide hcv1
    have HE1 := hide E1
    clear hcv1 E1
    refine hK.out _ _ ((unhide HE1).cell (unhide HBX)) (fun hHeld => ?_)
    clear hK K
    refine wpAnyH_take (i := 11) (v := ?_) rfl (by kernel_rfl) (by kernel_rfl) (by kernel_rfl) (fun _ _ _ h => h) (Or.inl ⟨by rfl, ?_⟩) (by assumption) ?_
    rotate_left
    · intro w' hSw; go_simp <;> with_reducible rfl
    simp only [Act.put, qA, qB, qC, qD, qE, qF]
    refine wpAnyH_ready (rs := [12]) (by kernel_rfl) (by simp) ?_
    refine AllReadyH.cons rfl (fun K hK => ?_) AllReadyH.nil
    obtain ⟨V, hV⟩ : ∃ V, V = W1.alloc (.cells #[.int .i64 2, .slice ca (cleanL ((h ++ [b]).take (h.length - 5))).length cc] 67) := ⟨_, rfl⟩
    have HEV : Hid (Ext W1 V) := hide (by rw [hV]; exact (Ext.refl W1).alloc _)
    have HNV : Hid (V.heap[W1.heap.size]? = some (.cells #[.int .i64 2, .slice ca (cleanL ((h ++ [b]).take (h.length - 5))).length cc] 67 (0, 0))) := hide (by rw [hV]; exact new_block W1 _)
    go_simp
    rw [← hV]
    clear hV
    refine hK.out _ _ ((unhide HEV).cell ((unhide HE1).cell (unhide HBX))) (fun hHeld => ?_)
    clear hK K
    refine wpAnyH_ready (rs := [13]) (by kernel_rfl) (by simp) ?_
    refine AllReadyH.cons rfl (fun K hK => ?_) AllReadyH.nil
    have HEE := hide (((unhide HE0).trans (unhide HE1)).trans (unhide HEV))
    refine wp_append_lies _ _ _ 27 (by rfl) c.base 67 ic (.agg #[.int .i64 0, .slice none 0 0]) 2 32 Tryd.underlying27 hic hc0 hc1 hc2 rfl (by decide) kv6 ks.length ys (by rfl) ((unhide HEE).owns (unhide HY)) ⟨W1.heap.size, 0, none⟩ 1 1 [.int .i64 2, .slice ca (cleanL ((h ++ [b]).take (h.length - 5))).length cc] (by rfl) rfl (fun j u hj => by rw [Addr.add_lit, Nat.zero_add]; exact cells_of (unhide HNV) j u (by simpa using hj)) (pair_one rfl rfl) (by omega) (by unfold maxLen; omega) (by omega) (by have := (unhide HEE).size; omega) _ rfl ?_
    intro g' cap' w8 hown hgrow hat _
    have HO8 := hide (OwnKys.push (r := .slice ca (cleanL ((h ++ [b]).take (h.length - 5))).length cc) (xs := cleanL ((h ++ [b]).take (h.length - 5))) (d := 2) ((unhide HK6).ext (unhide HEE)) ((unhide HEE).owns (unhide HY)) (unhide HYY) ((unhide HEV).owns (owns_base (unhide HC1) (by have := (unhide HE0).size; omega))) (fun j g hj hg => by
      have a1 := ((unhide HR) j hj).lt g hg
      have a2 := (unhide HE0).size
      intro e
      have a3 := ((unhide HC1).lt g e).1
      omega) hown hgrow)
    have fr3 : Fr (fun k => kv6.ownBlock = some k) w5 w8 := Fr.grown (Fr.of_ext (unhide HEE)) hgrow (fun k hk => hk)
    obtain ⟨hd, hf⟩ := dk_pressed (unhide HB6) (unhide HOv) (unhide HK6) hDb hbz (unhide HX6) (by
      rw [List.length_append]
      exact foot_push (unhide HK6).1 (own_at (hat.imp id (fun e => by rw [e]; exact (unhide HEE).size))) (fun k hk => Nat.le_trans (unhide HE0).size ((unhide HC1).lt k hk).1)) fr3 (unhide HO8)
    have k9 := (unhide HKW5).go hf hd
    have hne : ¬ kv6.ownBlock = some c.D := fun e => by have := ((unhide HY).lt c.D e).1; omega
    have b8 := fr3.kept (unhide HB6) hne
    have x8 : w8.cell? ⟨c.s, 0, none⟩ = some (ptr c.D) := cells_of (fr3.kept (unhide HBS) (fun e => by have := ((unhide HY).lt c.s e).1; have a1 := okk.s; have a2 := okk.t; have a3 := okk.y; have a4 := okk.z; have a5 := okk.top; omega)) 0 _ rfl
    have HK9 := hide k9
    have HF9 := hide (Fr.tr (unhide HF5) hf)
    have q2 : w8.cell? ⟨c.D, 2, none⟩ = some kv6 := cells_of b8 2 _ rfl
    have q3 : w8.frozen? ⟨c.D, 2, none⟩ = false := Lib.frozen_of_heap b8 2
    have g9 := k9.sts.2.2.2.2.2.1.2.1.cell
    clear hown hgrow hd hf k9 b8 fr3 hat
    simp only [Act.put, qA, qB, qC, qD, qE, qF]
    refine hK.out _ _ x8 (fun hHeld => ?_)
    clear hK K
    refine wpAnyH_take (i := 14) (v := ?_) rfl (by kernel_rfl) (by kernel_rfl) (by kernel_rfl) (fun _ _ _ h => h) (Or.inl ⟨by rfl, ?_⟩) (by assumption) ?_
    rotate_left
    · intro w' hSw; go_simp <;> with_reducible rfl
    simp only [Act.put, qA, qB, qC, qD, qE, qF]
    refine wpAnyH_take (i := 15) (v := ?_) rfl (by kernel_rfl) (by kernel_rfl) (by kernel_rfl) (fun _ _ _ h => h) (Or.inl ⟨by rfl, ?_⟩) (by assumption) ?_
    rotate_left
    · intro w' hSw; go_simp <;> with_reducible rfl
    simp only [Act.put, qA, qB, qC, qD, qE, qF]
    refine wpAnyH_ready (rs := [16]) (by kernel_rfl) (by simp) ?_
    refine AllReadyH.cons rfl (fun K hK => ?_) AllReadyH.nil
    go_simp
    refine hK.out _ _ ((unhide HK9).sts.2.2.2.2.2.1.1.cell) (fun hHeld => ?_)
    clear hK K
    refine wpAnyH_done (by kernel_rfl) ?_ _
    clear q2 q3 x8
    go_wp2
    exact bodyPost_ret (v := c.ground) (by simp [results, Tryd.results101, go_sem, Kc.ground]) rfl ⟨rfl, unhide HK9, unhide HF9⟩
  · go_simp
    refine (implClean_any _ hbm _ W0 (unhide HM) hml).mono ?_
    rintro e W1 ⟨cv, rfl, hcv1, E1⟩
    obtain ⟨ca, cc, rfl⟩ : ∃ a cc, cv = .slice a (cleanL ((h ++ [b]).take (h.length - 5))).length cc := by
      rcases hcv1.2 with ⟨rfl, e0⟩ | ⟨g, cap, cur, rfl, _⟩
      · exact ⟨none, 0, by rw [e0]⟩
      · exact ⟨_, _, rfl⟩
    have HC1 := hide hcv1
    have HE1 := hide E1
    clear hcv1 E1
    refine hK.out _ _ ((unhide HE1).cell (unhide HBX)) (fun hHeld => ?_)
    clear hK K
    refine wpAnyH_take (i := 11) (v := ?_) rfl (by kernel_rfl) (by kernel_rfl) (by kernel_rfl) (fun _ _ _ h => h) (Or.inl ⟨by rfl, ?_⟩) (by assumption) ?_
    rotate_left
    · intro w' hSw; go_simp <;> with_reducible rfl
    simp only [Act.put, qA, qB, qC, qD, qE, qF]
    refine wpAnyH_ready (rs := [4, 12]) (by kernel_rfl) (by simp) ?_
    refine AllReadyH.cons rfl (fun K hK => ?_) (AllReadyH.cons rfl (fun K hK => ?_) AllReadyH.nil)
    · have q4 := ((unhide HE1).cell (unhide HC2))
      go_simp
      refine hK.out _ _ ((unhide HE1).cell (unhide HBX)) (fun hHeld => ?_)
      clear hK K
      clear q4
      refine wpAnyH_ready (rs := [12]) (by kernel_rfl) (by simp) ?_
      refine AllReadyH.cons rfl (fun K hK => ?_) AllReadyH.nil
      obtain ⟨V, hV⟩ : ∃ V, V = W1.alloc (.cells #[.int .i64 2, .slice ca (cleanL ((h ++ [b]).take (h.length - 5))).length cc] 67) := ⟨_, rfl⟩
      have HEV : Hid (Ext W1 V) := hide (by rw [hV]; exact (Ext.refl W1).alloc _)
      have HNV : Hid (V.heap[W1.heap.size]? = some (.cells #[.int .i64 2, .slice ca (cleanL ((h ++ [b]).take (h.length - 5))).length cc] 67 (0, 0))) := hide (by rw [hV]; exact new_block W1 _)
      go_simp
      rw [← hV]
      clear hV
      refine hK.out _ _ ((unhide HEV).cell ((unhide HE1).cell (unhide HBX))) (fun hHeld => ?_)
      clear hK K
      refine wpAnyH_ready (rs := [13]) (by kernel_rfl) (by simp) ?_
      refine AllReadyH.cons rfl (fun K hK => ?_) AllReadyH.nil
      have HEE := hide (((unhide HE0).trans (unhide HE1)).trans (unhide HEV))
      refine wp_append_lies _ _ _ 27 (by rfl) c.base 67 ic (.agg #[.int .i64 0, .slice none 0 0]) 2 32 Tryd.underlying27 hic hc0 hc1 hc2 rfl (by decide) kv6 ks.length ys (by rfl) ((unhide HEE).owns (unhide HY)) ⟨W1.heap.size, 0, none⟩ 1 1 [.int .i64 2, .slice ca (cleanL ((h ++ [b]).take (h.length - 5))).length cc] (by rfl) rfl (fun j u hj => by rw [Addr.add_lit, Nat.zero_add]; exact cells_of (unhide HNV) j u (by simpa using hj)) (pair_one rfl rfl) (by omega) (by unfold maxLen; omega) (by omega) (by have := (unhide HEE).size; omega) _ rfl ?_
      intro g' cap' w8 hown hgrow hat _
      have HO8 := hide (OwnKys.push (r := .slice ca (cleanL ((h ++ [b]).take (h.length - 5))).length cc) (xs := cleanL ((h ++ [b]).take (h.length - 5))) (d := 2) ((unhide HK6).ext (unhide HEE)) ((unhide HEE).owns (unhide HY)) (unhide HYY) ((unhide HEV).owns (owns_base (unhide HC1) (by have := (unhide HE0).size; omega))) (fun j g hj hg => by
        have a1 := ((unhide HR) j hj).lt g hg
        have a2 := (unhide HE0).size
        intro e
        have a3 := ((unhide HC1).lt g e).1
        omega) hown hgrow)
      have fr3 : Fr (fun k => kv6.ownBlock = some k) w5 w8 := Fr.grown (Fr.of_ext (unhide HEE)) hgrow (fun k hk => hk)
      obtain ⟨hd, hf⟩ := dk_pressed (unhide HB6) (unhide HOv) (unhide HK6) hDb hbz (unhide HX6) (by
        rw [List.length_append]
        exact foot_push (unhide HK6).1 (own_at (hat.imp id (fun e => by rw [e]; exact (unhide HEE).size))) (fun k hk => Nat.le_trans (unhide HE0).size ((unhide HC1).lt k hk).1)) fr3 (unhide HO8)
      have k9 := (unhide HKW5).go hf hd
      have hne : ¬ kv6.ownBlock = some c.D := fun e => by have := ((unhide HY).lt c.D e).1; omega
      have b8 := fr3.kept (unhide HB6) hne
      have x8 : w8.cell? ⟨c.s, 0, none⟩ = some (ptr c.D) := cells_of (fr3.kept (unhide HBS) (fun e => by have := ((unhide HY).lt c.s e).1; have a1 := okk.s; have a2 := okk.t; have a3 := okk.y; have a4 := okk.z; have a5 := okk.top; omega)) 0 _ rfl
      have HK9 := hide k9
      have HF9 := hide (Fr.tr (unhide HF5) hf)
      have q2 : w8.cell? ⟨c.D, 2, none⟩ = some kv6 := cells_of b8 2 _ rfl
      have q3 : w8.frozen? ⟨c.D, 2, none⟩ = false := Lib.frozen_of_heap b8 2
      have g9 := k9.sts.2.2.2.2.2.1.2.1.cell
      clear hown hgrow hd hf k9 b8 fr3 hat
      simp only [Act.put, qA, qB, qC, qD, qE, qF]
      refine hK.out _ _ x8 (fun hHeld => ?_)
      clear hK K
      refine wpAnyH_take (i := 14) (v := ?_) rfl (by kernel_rfl) (by kernel_rfl) (by kernel_rfl) (fun _ _ _ h => h) (Or.inl ⟨by rfl, ?_⟩) (by assumption) ?_
      rotate_left
      · intro w' hSw; go_simp <;> with_reducible rfl
      simp only [Act.put, qA, qB, qC, qD, qE, qF]
      refine wpAnyH_take (i := 15) (v := ?_) rfl (by kernel_rfl) (by kernel_rfl) (by kernel_rfl) (fun _ _ _ h => h) (Or.inl ⟨by rfl, ?_⟩) (by assumption) ?_
      rotate_left
      · intro w' hSw; go_simp <;> with_reducible rfl
      simp only [Act.put, qA, qB, qC, qD, qE, qF]
      refine wpAnyH_ready (rs := [16]) (by kernel_rfl) (by simp) ?_
      refine AllReadyH.cons rfl (fun K hK => ?_) AllReadyH.nil
      go_simp
      refine hK.out _ _ ((unhide HK9).sts.2.2.2.2.2.1.1.cell) (fun hHeld => ?_)
      clear hK K
      refine wpAnyH_done (by kernel_rfl) ?_ _
      clear q2 q3 x8
      go_wp2
      exact bodyPost_ret (v := c.ground) (by simp [results, Tryd.results101, go_sem, Kc.ground]) rfl ⟨rfl, unhide HK9, unhide HF9⟩
    · obtain ⟨V, hV⟩ : ∃ V, V = W1.alloc (.cells #[.int .i64 2, .slice ca (cleanL ((h ++ [b]).take (h.length - 5))).length cc] 67) := ⟨_, rfl⟩
      have HEV : Hid (Ext W1 V) := hide (by rw [hV]; exact (Ext.refl W1).alloc _)
      have HNV : Hid (V.heap[W1.heap.size]? = some (.cells #[.int .i64 2, .slice ca (cleanL ((h ++ [b]).take (h.length - 5))).length cc] 67 (0, 0))) := hide (by rw [hV]; exact new_block W1 _)
      go_simp
      rw [← hV]
      clear hV
      refine hK.out _ _ ((unhide HEV).cell ((unhide HE1).cell (unhide HBX))) (fun hHeld => ?_)
      clear hK K
      refine wpAnyH_ready (rs := [4]) (by kernel_rfl) (by simp) ?_
      refine AllReadyH.cons rfl (fun K hK => ?_) AllReadyH.nil
      have q4 := ((unhide HEV).cell ((unhide HE1).cell (unhide HC2)))
      go_simp
      refine hK.out _ _ ((unhide HEV).cell ((unhide HE1).cell (unhide HBX))) (fun hHeld => ?_)
      clear hK K
      clear q4
      refine wpAnyH_ready (rs := [13]) (by kernel_rfl) (by simp) ?_
      refine AllReadyH.cons rfl (fun K hK => ?_) AllReadyH.nil
      have HEE := hide (((unhide HE0).trans (unhide HE1)).trans (unhide HEV))
      refine wp_append_lies _ _ _ 27 (by rfl) c.base 67 ic (.agg #[.int .i64 0, .slice none 0 0]) 2 32 Tryd.underlying27 hic hc0 hc1 hc2 rfl (by decide) kv6 ks.length ys (by rfl) ((unhide HEE).owns (unhide HY)) ⟨W1.heap.size, 0, none⟩ 1 1 [.int .i64 2, .slice ca (cleanL ((h ++ [b]).take (h.length - 5))).length cc] (by rfl) rfl (fun j u hj => by rw [Addr.add_lit, Nat.zero_add]; exact cells_of (unhide HNV) j u (by simpa using hj)) (pair_one rfl rfl) (by omega) (by unfold maxLen; omega) (by omega) (by have := (unhide HEE).size; omega) _ rfl ?_
      intro g' cap' w8 hown hgrow hat _
      have HO8 := hide (OwnKys.push (r := .slice ca (cleanL ((h ++ [b]).take (h.length - 5))).length cc) (xs := cleanL ((h ++ [b]).take (h.length - 5))) (d := 2) ((unhide HK6).ext (unhide HEE)) ((unhide HEE).owns (unhide HY)) (unhide HYY) ((unhide HEV).owns (owns_base (unhide HC1) (by have := (unhide HE0).size; omega))) (fun j g hj hg => by
        have a1 := ((unhide HR) j hj).lt g hg
        have a2 := (unhide HE0).size
        intro e
        have a3 := ((unhide HC1).lt g e).1
        omega) hown hgrow)
      have fr3 : Fr (fun k => kv6.ownBlock = some k) w5 w8 := Fr.grown (Fr.of_ext (unhide HEE)) hgrow (fun k hk => hk)
      obtain ⟨hd, hf⟩ := dk_pressed (unhide HB6) (unhide HOv) (unhide HK6) hDb hbz (unhide HX6) (by
        rw [List.length_append]
        exact foot_push (unhide HK6).1 (own_at (hat.imp id (fun e => by rw [e]; exact (unhide HEE).size))) (fun k hk => Nat.le_trans (unhide HE0).size ((unhide HC1).lt k hk).1)) fr3 (unhide HO8)
      have k9 := (unhide HKW5).go hf hd
      have hne : ¬ kv6.ownBlock = some c.D := fun e => by have := ((unhide HY).lt c.D e).1; omega
      have b8 := fr3.kept (unhide HB6) hne
      have x8 : w8.cell? ⟨c.s, 0, none⟩ = some (ptr c.D) := cells_of (fr3.kept (unhide HBS) (fun e => by have := ((unhide HY).lt c.s e).1; have a1 := okk.s; have a2 := okk.t; have a3 := okk.y; have a4 := okk.z; have a5 := okk.top; omega)) 0 _ rfl
      have HK9 := hide k9
      have HF9 := hide (Fr.tr (unhide HF5) hf)
      have q2 : w8.cell? ⟨c.D, 2, none⟩ = some kv6 := cells_of b8 2 _ rfl
      have q3 : w8.frozen? ⟨c.D, 2, none⟩ = false := Lib.frozen_of_heap b8 2
      have g9 := k9.sts.2.2.2.2.2.1.2.1.cell
      clear hown hgrow hd hf k9 b8 fr3 hat
      simp only [Act.put, qA, qB, qC, qD, qE, qF]
      refine hK.out _ _ x8 (fun hHeld => ?_)
      clear hK K
      refine wpAnyH_take (i := 14) (v := ?_) rfl (by kernel_rfl) (by kernel_rfl) (by kernel_rfl) (fun _ _ _ h => h) (Or.inl ⟨by rfl, ?_⟩) (by assumption) ?_
      rotate_left
      · intro w' hSw; go_simp <;> with_reducible rfl
      simp only [Act.put, qA, qB, qC, qD, qE, qF]
      refine wpAnyH_take (i := 15) (v := ?_) rfl (by kernel_rfl) (by kernel_rfl) (by kernel_rfl) (fun _ _ _ h => h) (Or.inl ⟨by rfl, ?_⟩) (by assumption) ?_
      rotate_left
      · intro w' hSw; go_simp <;> with_reducible rfl
      simp only [Act.put, qA, qB, qC, qD, qE, qF]
      refine wpAnyH_ready (rs := [16]) (by kernel_rfl) (by simp) ?_
      refine AllReadyH.cons rfl (fun K hK => ?_) AllReadyH.nil
      go_simp
      refine hK.out _ _ ((unhide HK9).sts.2.2.2.2.2.1.1.cell) (fun hHeld => ?_)
      clear hK K
      refine wpAnyH_done (by kernel_rfl) ?_ _
      clear q2 q3 x8
      go_wp2
      exact bodyPost_ret (v := c.ground) (by simp [results, Tryd.results101, go_sem, Kc.ground]) rfl ⟨rfl, unhide HK9, unhide HF9⟩
end Go.Proofs.YtbieoijeilhadaaDoor

namespace Go.Proofs.YtbieoijeilhadaaDoor
open Go.RowKit Go.Maps
theorem numR_full : ∀ (r : List Int), r.length ≤ numR r → ∀ d ∈ r, 48 ≤ d ∧ d ≤ 63
  | [], _, d, hd => by simp at hd
  | x :: xs, h, d, hd => by
    rw [numR] at h
    by_cases hx : 48 ≤ x ∧ x ≤ 63
    · rw [if_pos hx] at h
      simp at h
      rcases List.mem_cons.1 hd with rfl | hd
      · exact hx
      · exact numR_full xs h d hd
    · rw [if_neg hx] at h
      simp at h
theorem held_shape {h : List Int} (hb : Bytes h) (hs : rkStep h false = none) : h = [] ∨ h = [27] ∨ h = [27, 79] ∨ (∃ ds, h = 27 :: 91 :: ds ∧ ∀ d ∈ ds, 48 ≤ d ∧ d ≤ 63) ∨ (0 < h.length ∧ at0 h 0 ≠ 27 ∧ ¬ at0 h 0 < 32 ∧ at0 h 0 ≠ 127 ∧ fullB h = false) := by
  unfold rkStep at hs
  by_cases h0 : h.length = 0
  · exact .inl (List.eq_nil_of_length_eq_zero h0)
  · rw [if_neg h0, if_neg (by simp)] at hs
    have hn : (oneF h).n = 0 := by
      by_cases e : (oneF h).n = 0
      · exact e
      · rw [if_neg e] at hs
        simp at hs
    unfold oneF at hn
    by_cases a27 : at0 h 0 = 27
    · rw [if_pos a27] at hn
      match h, a27, hn with
      | [], _, _ => exact .inl rfl
      | [x], a27, _ => exact .inr (.inl (by rw [show x = 27 from a27]))
      | x :: y :: r, a27, hn =>
        have hx : x = 27 := a27
        subst hx
        unfold escF at hn
        have e1 : at0 (27 :: y :: r) 1 = y := rfl
        rw [e1, if_neg (by simp)] at hn
        by_cases y27 : y = 27
        · rw [if_pos y27] at hn; simp at hn
        · rw [if_neg y27] at hn
          by_cases y91 : y = 91
          · rw [if_pos y91] at hn
            subst y91
            unfold brkF at hn
            by_cases hl : (27 :: 91 :: r).length ≤ 2 + numR ((27 :: 91 :: r).drop 2)
            · exact .inr (.inr (.inr (.inl ⟨r, rfl, numR_full r (by have h9 := hl; simp at h9; omega)⟩)))
            · rw [if_neg hl] at hn
              exfalso
              (repeat' split at hn) <;> simp at hn
          · rw [if_neg y91] at hn
            by_cases y79 : y = 79
            · rw [if_pos y79] at hn
              by_cases hl : (27 :: y :: r).length ≤ 2
              · have : r = [] := List.eq_nil_of_length_eq_zero (by simpa using hl)
                subst this
                subst y79
                exact .inr (.inr (.inl rfl))
              · rw [if_neg hl] at hn; simp at hn
            · rw [if_neg y79] at hn
              exfalso
              revert hn
              split
              · simp
              · split <;> simp
    · rw [if_neg a27] at hn
      by_cases a9 : at0 h 0 = 9
      · rw [if_pos a9] at hn; simp at hn
      · rw [if_neg a9] at hn
        by_cases hc : 0 < ctrlF (at0 h 0)
        · rw [if_pos hc] at hn; simp at hn
        · rw [if_neg hc] at hn
          by_cases hg : begB h = true
          · have hf : fullB h = false := by
              have := beg_full h (by omega)
              rw [hg] at this
              cases hq : fullB h
              · rfl
              · rw [hq] at this; simp at this
            have hbd := hb.at0 0
            obtain ⟨n, hn2⟩ := fin_of hbd.1 hbd.2
            have hk := ctrl_kind n
            refine .inr (.inr (.inr (.inr ⟨by omega, a27, fun h32 => ?_, fun h127 => ?_, hf⟩)))
            · rw [hn2] at hc a9 a27 h32
              have := hk (.inl (by omega)) (by omega) (by omega)
              rw [this.1] at hc
              exact hc this.2.1
            · rw [hn2] at hc a9 a27 h127
              have := hk (.inr (by omega)) (by omega) (by omega)
              rw [this.1] at hc
              exact hc this.2.1
          · rw [if_neg hg] at hn
            have := decL_pos h
            simp at hn
            omega
section
variable (c : Kc)
theorem mode_paste (h : List Int) : c.mode h true = pastedF c.s := by simp [Kc.mode]
theorem mode_nil : c.mode [] false = c.ground := by simp [Kc.mode]
theorem mode_esc : c.mode [27] false = escapedF c.t c.z := by simp [Kc.mode, at0]
theorem mode_o : c.mode [27, 79] false = singleF c.t := by simp [Kc.mode, at0]
theorem mode_br (ds : List Int) : c.mode (27 :: 91 :: ds) false = betweenF c.y := by simp [Kc.mode, at0]
theorem mode_begun (h : List Int) (h0 : 0 < h.length) (h27 : at0 h 0 ≠ 27) : c.mode h false = begunF c.r := by
  have : h ≠ [] := by intro e; subst e; simp at h0
  simp [Kc.mode, this, h27]
end
theorem rk_hold {s : List Int} {p : Bool} (h : (rk s p).2.1 = 0) : rkH s p = s := by unfold rkH; rw [h]; rfl
theorem rk_gone {s : List Int} {p : Bool} (h : (rk s p).2.1 = s.length) : rkH s p = [] := by unfold rkH; rw [h]; simp
theorem begun_rune (c : Kc) (b : Int) (h : List Int) (ks : List (List Int × Int)) (w : World) (k : KW w c h false ks) (hl : h.length ≤ 3) (hb : Bytes (h ++ [b])) (hkl : ks.length + h.length ≤ 4194303)
    (h27 : at0 (h ++ [b]) 0 ≠ 27) (h32 : ¬ at0 (h ++ [b]) 0 < 32) (h127 : at0 (h ++ [b]) 0 ≠ 127) (IH : ∀ (c' : Kc) (h' : List Int) (p' : Bool), h'.length < h.length → rkStep h' p' = none → StepAt c' h' p') :
    Calls Tryd.prog 97 #[.int .u8 b, ptr c.r, ptr (c.r + 3), ptr (c.r + 2), ptr (c.r + 1)] w fun e w' => Stp c (rkH (h ++ [b]) false) (rk (h ++ [b]) false).2.2 (ks ++ (rk (h ++ [b]) false).1) w (c.mode (rkH (h ++ [b]) false) (rk (h ++ [b]) false).2.2) e w' := by
  have hs0 : 0 < (h ++ [b]).length := by simp
  cases hf : fullB (h ++ [b]) with
  | true =>
    have e := rk_rune hs0 hb h32 h127 hf
    have := begun_full c b h ks w k hl hb hf hkl IH _ rfl
    have eh : rkH (h ++ [b]) false = rkH ((h ++ [b]).drop (decL (h ++ [b])).2) false := by
      unfold rkH
      rw [e, List.drop_drop]
    rw [eh, e]
    exact this
  | false =>
    have e : rk (h ++ [b]) false = ([], 0, false) := by
      refine rk_none (rkStep_wait ?_)
      unfold oneF
      have hbd := hb.at0 0
      obtain ⟨n, hn2⟩ := fin_of hbd.1 hbd.2
      have hc : ctrlF (at0 (h ++ [b]) 0) = 0 := by
        rw [hn2]
        rw [hn2] at h32 h127
        exact ctrl_none n (by omega) (by omega)
      have hg : begB (h ++ [b]) = true := by rw [beg_full _ hs0, hf]; rfl
      rw [if_neg h27, if_neg (by omega), hc, if_neg (by omega), if_pos hg]
    have := begun_more c b h ks w k hl hb hf
    rw [rk_hold (by rw [e]), e, mode_begun c _ hs0 h27]
    simpa using this
theorem ground_rune (c : Kc) (b : Int) (ks : List (List Int × Int)) (w : World) (k : KW w c [] false ks) (hb : Bytes [b]) (hkl : ks.length ≤ 4194303) :
    Calls Tryd.prog 72 #[.int .u8 b, ptr c.q, ptr (c.q + 3), ptr (c.q + 2), ptr (c.q + 1)] w fun e w' => Stp c (rkH [b] false) (rk [b] false).2.2 (ks ++ (rk [b] false).1) w (c.mode (rkH [b] false) (rk [b] false).2.2) e w' := by
  have hbd := hb b (by simp)
  by_cases h27 : b = 27
  · subst h27
    rw [rk_hold (by rw [rk_ground_27]), rk_ground_27, mode_esc]
    simpa using ground_27 c ks w k
  · by_cases h9 : b = 9
    · subst h9
      rw [rk_gone (by rw [rk_ground_9]; rfl), rk_ground_9, mode_nil]
      exact ground_9 c ks w k (by omega)
    · by_cases hc : b < 32 ∨ b = 127
      · have e := rk_ground_ctl hbd.1 hbd.2 hc h9 h27
        rw [rk_gone (by rw [e]; rfl), e, mode_nil]
        exact ground_ctl c b ks w k (by omega) h27 h9 hc
      · refine ground_else c b ks w k (by omega) (by omega) _ _ _ _ ?_
        exact begun_rune c b [] ks w k (by simp) hb (by simpa using hkl) h27 (fun e => hc (.inl e)) (fun e => hc (.inr e)) (fun _ _ _ hh => by simp at hh)
theorem stf_of {v : Value} {b : Int} {w : World} {Q : Ending → World → Prop} (F : FuncId) (caps : List Value) (hv : v = .func (.func F) #[] caps.toArray) (hc : ∀ (args : Array Value) (w : World), (callFunc F args).run Tryd.prog w = .ok (.enter F args) w) (h : Calls Tryd.prog F (Value.int .u8 b :: caps).toArray w Q) : StF v b w Q := ⟨F, caps, hv, hc, h⟩
theorem step_all : ∀ (n : Nat) (c : Kc) (h : List Int) (p : Bool), h.length = n → rkStep h p = none → StepAt c h p := by
  intro n
  induction n using Nat.strongRecOn with
  | ind n ih =>
    intro c h p hn hs b ks w k hb hl
    have hbl : Bytes h := fun x hx => hb x (List.mem_append_left _ hx)
    have hbb : Bytes [b] := fun x hx => hb x (List.mem_append_right _ hx)
    have hbd := hbb b (by simp)
    have hap : (h ++ [b]).length = h.length + 1 := by simp
    cases p with
    | true =>
      have e := rk_pasted h b hs
      rw [mode_paste]
      by_cases hp : pEnd (h ++ [b]) = true
      · rw [if_pos hp] at e
        rw [rk_gone (by rw [e, hap]), e, mode_nil]
        exact stf_of 101 [ptr c.s, ptr (c.s + 2), ptr (c.s + 1)] rfl (fun _ _ => by kernel_rfl) (pasted_end c b h ks w k (by omega) (by omega) hb hp)
      · rw [if_neg hp] at e
        rw [rk_hold (by rw [e]), e, mode_paste]
        refine stf_of 101 [ptr c.s, ptr (c.s + 2), ptr (c.s + 1)] rfl (fun _ _ => by kernel_rfl) ?_
        have := pasted_more c b h ks w k (by omega) hb (by simpa using hp)
        simpa using this
    | false =>
      rcases held_shape hbl hs with rfl | rfl | rfl | ⟨ds, rfl, hds⟩ | ⟨h0, h27, h32, h127, hf⟩
      · rw [mode_nil]
        exact stf_of 72 [ptr c.q, ptr (c.q + 3), ptr (c.q + 2), ptr (c.q + 1)] rfl (fun _ _ => by kernel_rfl) (ground_rune c b ks w k hbb (by simp at hl; omega))
      · rw [mode_esc]
        refine stf_of 107 [ptr c.t, ptr c.z, ptr (c.t + 2), ptr (c.t + 1)] rfl (fun _ _ => by kernel_rfl) ?_
        show Calls _ _ _ _ (Stp c (rkH [27, b] false) (rk [27, b] false).2.2 (ks ++ (rk [27, b] false).1) w (c.mode (rkH [27, b] false) (rk [27, b] false).2.2))
        by_cases b91 : b = 91
        · subst b91
          have e := rk_escaped_wait (b := 91) (.inl rfl)
          rw [rk_hold (by rw [e]), e, mode_br]
          simpa using escaped_91 c ks w k
        · by_cases b79 : b = 79
          · subst b79
            have e := rk_escaped_wait (b := 79) (.inr rfl)
            rw [rk_hold (by rw [e]), e, mode_o]
            simpa using escaped_79 c ks w k
          · by_cases b27 : b = 27
            · subst b27
              have eh : rkH [27, 27] false = [27] := by unfold rkH; rw [rk_escaped_27]; rfl
              rw [eh, rk_escaped_27, mode_esc]
              exact escaped_27 c ks w k (by simp at hl; omega)
            · have e := rk_escaped_else hbd.1 hbd.2 b91 b79 b27
              rw [rk_gone (by rw [e]; rfl), e, mode_nil]
              exact escaped_else c b ks w k (by simp at hl; omega) b91 b79 b27
      · rw [mode_o]
        refine stf_of 103 [ptr c.t, ptr (c.t + 1)] rfl (fun _ _ => by kernel_rfl) ?_
        show Calls _ _ _ _ (Stp c (rkH [27, 79, b] false) (rk [27, 79, b] false).2.2 (ks ++ (rk [27, 79, b] false).1) w (c.mode (rkH [27, 79, b] false) (rk [27, 79, b] false).2.2))
        have e := rk_single hbb
        rw [rk_gone (by rw [e]; rfl), e, mode_nil]
        exact single_any c b ks w k (by simp at hl; omega)
      · rw [mode_br]
        refine stf_of 118 [ptr c.y, ptr (c.y + 3), ptr (c.y + 1), ptr (c.y + 2)] rfl (fun _ _ => by kernel_rfl) ?_
        have eA : 27 :: 91 :: ds ++ [b] = 27 :: 91 :: (ds ++ [b]) := rfl
        have hlen : (27 :: 91 :: ds : List Int).length = ds.length + 2 := by simp
        have hdb : Bytes (ds ++ [b]) := fun x hx => hb x (by rw [eA]; exact List.mem_cons_of_mem _ (List.mem_cons_of_mem _ hx))
        rw [eA]
        by_cases h1 : 48 ≤ b ∧ b ≤ 63
        · have e := rk_between_more hds h1
          rw [rk_hold (by rw [e]), e, mode_br]
          simpa using between_more c b (27 :: 91 :: ds) ks w k (by omega) h1.1 h1.2
        · by_cases h2 : 64 ≤ b ∧ b ≤ 126
          · by_cases hp : ds = [50, 48, 48] ∧ b = 126
            · obtain ⟨rfl, rfl⟩ := hp
              have e := rk_between_paste
              show Calls _ _ _ _ (Stp c (rkH [27, 91, 50, 48, 48, 126] false) (rk [27, 91, 50, 48, 48, 126] false).2.2 (ks ++ (rk [27, 91, 50, 48, 48, 126] false).1) w (c.mode (rkH [27, 91, 50, 48, 48, 126] false) (rk [27, 91, 50, 48, 48, 126] false).2.2))
              rw [rk_gone (by rw [e]; rfl), e, mode_paste]
              simpa using between_paste c 126 [27, 91, 50, 48, 48] ks w k (by simp) (by simp) (by decide) rfl
            · have e := rk_between_key hds h2 hp hdb
              rw [rk_gone (by rw [e]; simp), e, mode_nil]
              refine between_key c b (27 :: 91 :: ds) ks w k (by omega) (by omega) (by omega) h2 (fun eq => hp ?_)
              have h3 : toBA (ds ++ [b]) = toBA [50, 48, 48, 126] := ByteArray.ext (by rw [toList_data, toList_data] at eq; exact Array.ext' eq)
              have h4 : ds ++ [b] = [50, 48, 48, 126] := toBA_inj hdb (by unfold Bytes; decide) h3
              have h5 : ds ++ [b] = [50, 48, 48] ++ [126] := h4
              have h6 := List.append_inj' h5 rfl
              exact ⟨h6.1, by simpa using h6.2⟩
          · have e := rk_between_bad hds h1 h2
            have hm1 := rk_len 1 [b] false (by simp)
            have eh : rkH (27 :: 91 :: (ds ++ [b])) false = rkH [b] false := by
              unfold rkH
              rw [e]
              show List.drop (ds.length + 2 + (rk [b] false).2.1) (27 :: 91 :: (ds ++ [b])) = _
              rw [← List.drop_drop]
              congr 1
              show (ds ++ [b]).drop ds.length = [b]
              simp
            rw [eh, e]
            refine between_bad c b (27 :: 91 :: ds) ks w k (by omega) h1 h2 _ _ _ _ (fun w' k' => ?_)
            have := ground_rune c b (ks ++ [([], 23)]) w' k' hbb (by simp; omega)
            simpa using this
      · have hlb : h.length < nB (at0 h 0) := ((full_iffB h).1 hf).1
        have hnb : nB (at0 h 0) ≤ 4 := by unfold nB; (repeat' split) <;> omega
        have ea : at0 (h ++ [b]) 0 = at0 h 0 := at0_appL h0
        rw [mode_begun c h h0 h27]
        exact stf_of 97 [ptr c.r, ptr (c.r + 3), ptr (c.r + 2), ptr (c.r + 1)] rfl (fun _ _ => by kernel_rfl) (begun_rune c b h ks w k (by omega) hb hl (by rw [ea]; exact h27) (by rw [ea]; exact h32) (by rw [ea]; exact h127) (fun c' h' p' hh hs' => ih h'.length (by omega) c' h' p' rfl hs'))
end Go.Proofs.YtbieoijeilhadaaDoor

namespace Go.Proofs.YtbieoijeilhadaaDoor
open Go.RowKit Go.Maps
def dn (xs ys : List Int) (j : Nat) : List Int := if j = 0 then [] else if j = 1 then xs else xs ++ ys
set_option maxRecDepth 10000 in
set_option maxHeartbeats 4000000 in
theorem readAll_any (c : Kc) (p : Bool) (xs ys : List Int) (P : Nat) (T : TypeId) (xv yv : Value) (w : World) (k : KW w c [] p []) (hP : w.heap[P]? = some (.cells #[xv, yv] T (0, 0))) (hPb : P < c.base) (hPD : P ≠ c.D)
    (hx : ∀ w', FrD c.D c.base c.keep w w' → IntsAt w' .u8 xv xs) (hy : ∀ w', FrD c.D c.base c.keep w w' → IntsAt w' .u8 yv ys) (hbx : Bytes xs) (hby : Bytes ys) (hl : xs.length + ys.length ≤ 4194303) (sv : Value) (hsv : sv = c.mode [] p) :
    Calls Tryd.prog 37 #[sv, .slice (some ⟨P, 0, none⟩) 2 2] w fun e w' => e = .returned (.tuple #[]) ∧ ∃ v, Rd c p (xs ++ ys) [] w w' v := by
  obtain ⟨xa, xc, rfl, _, _⟩ := hx w (Fr.refl _ _)
  obtain ⟨ya, yc, rfl, _, _⟩ := hy w (Fr.refl _ _)
  have HRd : Hid (Rd c p [] [] w w sv) := hide (by rw [hsv]; exact rd_start k)
  have hpc : ∀ (wr : World) (j : Nat), FrD c.D c.base c.keep w wr → j < 2 → ∃ pa pc zs, wr.cell? ⟨P, j, none⟩ = some (.slice pa zs.length pc) ∧ dn xs ys (j + 1) = dn xs ys j ++ zs ∧ (∀ w', FrD c.D c.base c.keep w w' → IntsAt w' .u8 (.slice pa zs.length pc) zs) ∧ Bytes (dn xs ys j ++ zs) ∧ (dn xs ys j).length + zs.length ≤ 4194303 := fun wr j hf hj => by
    have hb := hf.kept hP (by omega)
    rcases (show j = 0 ∨ j = 1 by omega) with rfl | rfl
    · exact ⟨xa, xc, xs, cells_of hb 0 _ rfl, rfl, hx, hbx, by simp [dn]; omega⟩
    · exact ⟨ya, yc, ys, cells_of hb 1 _ rfl, rfl, hy, fun n hn => (List.mem_append.1 hn).elim (hbx n) (hby n), by simp [dn]; omega⟩
  have HPC := hide hpc
  clear hx hy hbx hby hpc hP k hsv
  go_enter Tryd.func37, Tryd.ntmps37
  go_wp2_with fail
  go_loopw [0, 10] (fun v i wr => ∃ j : Nat, j ≤ 2 ∧ i = .int .i64 j ∧ Hid (Rd c p (dn xs ys j) [] w wr v)) (fun _ i _ => 2 - (intOf i).toNat)
  case atStart => exact ⟨0, Nat.zero_le _, rfl, HRd⟩
  case round =>
    obtain ⟨j, hj, rfl, HRj⟩ := hrel
    by_cases hlt : j < 2
    · obtain ⟨pa, pc, zs, hcj, hdn, hzs, hbz, hlz⟩ := (unhide HPC) wr j (unhide HRj).2.2 hlt
      have bj : (j : Int) < 2 := by omega
      have HZ := hide hzs
      have HBZ := hide hbz
      have HDN := hide hdn
      clear hzs hbz hdn
      obtain ⟨S, hS⟩ : ∃ S, S = dn xs ys j := ⟨_, rfl⟩
      rw [← hS] at HRj HBZ HDN hlz
      clear hS
      go_wp2_with fail
      go_loopw [0, 16] (fun v i wr => ∃ k : Nat, k ≤ zs.length ∧ i = .int .i64 k ∧ Hid (Rd c p (S ++ zs.take k) [] w wr v)) (fun _ i _ => zs.length - (intOf i).toNat)
      case atStart => exact ⟨0, Nat.zero_le _, rfl, by rw [List.take_zero, List.append_nil]; exact HRj⟩
      case round =>
        obtain ⟨k, hk, rfl, HRk⟩ := hrel
        by_cases hlt2 : k < zs.length
        · have bk : (k : Int) < (zs.length : Int) := by omega
          obtain ⟨ao, cp, e, _, hrr⟩ := (unhide HZ) wr (unhide HRk).2.2
          obtain ⟨b', off, e2, hc⟩ := hrr (by omega)
          have e3 : pa = some ⟨b', off, none⟩ := by
            simp only [e2, Value.slice.injEq] at e
            exact e.1
          clear e e2
          subst e3
          have hcl := hc k hlt2
          have e9 : S ++ zs.take (k + 1) = S ++ zs.take k ++ [at0 zs k] := by rw [take_at0 zs k hlt2, List.append_assoc]
          have hbt : Bytes (S ++ zs.take k ++ [at0 zs k]) := by
            rw [← e9]
            exact fun n hn => (unhide HBZ) n ((List.mem_append.1 hn).elim (fun h => List.mem_append_left _ h) (fun h => List.mem_append_right _ (List.mem_of_mem_take h)))
          obtain ⟨F, caps, rfl, hcf, hcall⟩ := rd_step (unhide HRk) (at0 zs k) hbt (by simp; omega) (fun h' p' _ hs => step_all h'.length c h' p' rfl hs)
          rw [← e9] at hcall
          have HCall := hide hcall
          clear hcall hbt hc e9 hrr
          go_wp2_with fail
          refine (unhide HCall).mono ?_
          rintro e w' ⟨v', rfl, hR'⟩
          have HR' := hide hR'
          clear hR' HCall hcf
          go_wp2
          go_roundw
          case rel => exact ⟨k + 1, by omega, by go_num, HR'⟩
          case measure => simp [intOf]; omega
        · obtain rfl : k = zs.length := by omega
          rw [List.take_length, ← unhide HDN] at HRk
          go_wp2
          go_roundw
          case rel => exact ⟨j + 1, by omega, by go_num, HRk⟩
          case measure => simp [intOf]; omega
    · obtain rfl : j = 2 := by omega
      go_wp2
      go_end0
      exact ⟨rfl, _, unhide HRj⟩
end Go.Proofs.YtbieoijeilhadaaDoor
