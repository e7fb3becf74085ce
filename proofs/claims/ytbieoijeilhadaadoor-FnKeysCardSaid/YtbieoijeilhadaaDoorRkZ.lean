import Derived.Test.YtbieoijeilhadaaDoorRkR
namespace Go.Proofs.YtbieoijeilhadaaDoor
open Go.RowKit Go.Maps
theorem sts_ext {w w' : World} {D q r s t y z : Nat} (h : StsAt w D q r s t y z) (he : Ext w w') : StsAt w' D q r s t y z := by
  obtain ⟨s1, s2, s3, s4, ⟨r1, r2, r3, r4⟩, ⟨p1, p2, p3⟩, e⟩ := h
  exact ⟨s1.ext he, s2.ext he, s3.ext he, s4.ext he, ⟨r1.ext he, r2.ext he, r3.ext he, r4.ext he⟩, ⟨p1.ext he, p2.ext he, p3.ext he⟩, ⟨e.1.ext he, e.2.1.ext he, e.2.2.1.ext he, e.2.2.2.1.ext he, e.2.2.2.2.ext he⟩⟩
theorem ints_fr {S : Nat → Prop} {w w1 w' : World} {v : Value} {zs : List Int} (h : IntsAt w .u8 v zs) (he : Ext w w1) (hf : Fr S w1 w') (hS : ∀ k, k < w.heap.size → ¬ S k) : IntsAt w' .u8 v zs := by
  obtain ⟨ao, cap, e, hc, hr⟩ := h
  refine ⟨ao, cap, e, hc, fun hp => ?_⟩
  obtain ⟨b, off, e2, hcell⟩ := hr hp
  refine ⟨b, off, e2, fun j hj => ?_⟩
  have hl := lt_of_cell (hcell j hj)
  have hb := hf.block b (Nat.lt_of_lt_of_le hl he.size) (hS b hl)
  rw [World.cell?_of_block hb]
  exact he.cell (hcell j hj)
theorem kw_start {W W1 : World} {D b1 b2 b3 q r s t y z : Nat} {p : Bool} {X : Nat → Prop} (hd : DkAt W1 D W1.heap.size X [] p [] (.map (some b1)) (.map (some b2)) (.map (some b3))) (hE : Ext W1 W) (hm : MapsAt W1 b1 b2 b3) (h1 : b1 < D) (h2 : b2 < D) (h3 : b3 < D) (hq : W1.heap.size ≤ q) (hr : q + 3 < r) (hs : r + 3 < s) (ht : s + 2 < t) (hy : t + 2 < y) (hz : y + 3 < z) (hzW : z < W.heap.size)
    (hst : StsAt W D q r s t y z) (w : World) (hT : Tabs2 w) (hwD : w.heap.size ≤ D) (hw : Ext w W) : KW W ⟨D, W.heap.size, b1, b2, b3, q, r, s, t, y, z, fun _ => False⟩ [] p [] := by
  obtain ⟨hv, kv, rs, hB, hO, hK, hD, _, _⟩ := hd
  have nil : ∀ (e : TypeId) (n : Nat) (x : Value) (zs : List Value), W1.ownsRow W1.heap.size e n x 0 zs → x = .slice none 0 0 := fun e n x zs ho => by
    rcases ho.2 with ⟨h, _⟩ | ⟨g, c, cur, h, _⟩
    · exact h
    · have := ho.lt g (by rw [h]; rfl)
      omega
  obtain ⟨ys, hk, _⟩ := hK.2.1
  have e1 := nil _ _ _ _ hO
  have e2 := nil _ _ _ _ hk
  have hrs : rs = [] := List.eq_nil_of_length_eq_zero hK.1
  subst e1
  subst e2
  subst hrs
  have z1 := hE.size
  have t2 := lt_of_cell (hT.1 0 (by omega))
  have t3 := lt_of_cell (hT.2 0 (by omega)).1
  exact ⟨⟨by show D < W.heap.size; omega, h1, h2, h3, by show D < q; omega, hr, hs, ht, hy, hz, hzW, by show _ < D; omega, by show _ < D; omega⟩,
    ⟨.slice none 0 0, .slice none 0 0, [], hE.kept hB, ⟨by simp, .inl ⟨rfl, rfl⟩⟩, kys_empty ⟨by simp, .inl ⟨rfl, rfl⟩⟩, by show D < W.heap.size; omega, Nat.le_refl _, fun _ hk => hk.elim⟩,
    ⟨hE.kept hm.1, hE.kept hm.2.1, hE.kept hm.2.2⟩, hst, hT.ext hw⟩
set_option linter.unusedSimpArgs false in
set_option maxRecDepth 10000 in
set_option maxHeartbeats 8000000 in
theorem implReadKeys_any (ha : Option Addr) (hc : Nat) (hs bs : List Int) (p : Bool) (v : Value) (w : World) (hh : IntsAt w .u8 (.slice ha hs.length hc) hs) (hv : IntsAt w .u8 v bs) (hB : Bytes hs) (hB2 : Bytes bs) (hl : hs.length + bs.length ≤ 4194303) (hT : Tabs2 w) :
    Calls Tryd.prog 8 #[.agg #[.slice ha hs.length hc, .bool p], v] w fun e w' => RkOut w.heap.size w' (hs ++ bs) (rk (hs ++ bs) p) e ∧ Ext w w' := by
  obtain ⟨va, vc, rfl, _⟩ := id hv
  have infoKR : (Tryd.prog.info? 24).map (·.size) = some 2 := by kernel_rfl
  obtain ⟨V, hV⟩ : ∃ V, V = (w.alloc (.cells #[.slice ha hs.length hc, .bool p] 24)).alloc (.cells #[.slice none 0 0, .bool false] 24) := ⟨_, rfl⟩
  have E0 : Ext w V := by rw [hV]; exact ((Ext.refl w).alloc _).alloc _
  have zV : V.heap.size = w.heap.size + 2 := by rw [hV]; simp
  have B0 : V.heap[w.heap.size]? = some (.cells #[.slice ha hs.length hc, .bool p] 24 (0, 0)) := by rw [hV]; exact ((Ext.refl _).alloc _).kept (new_block w _)
  have B1 : V.heap[w.heap.size + 1]? = some (.cells #[.slice none 0 0, .bool false] 24 (0, 0)) := by
    rw [hV]
    have h := new_block (w.alloc (.cells #[.slice ha hs.length hc, .bool p] 24)) (.cells #[.slice none 0 0, .bool false] 24)
    rw [show (w.alloc (.cells #[.slice ha hs.length hc, .bool p] 24)).heap.size = w.heap.size + 1 by simp] at h
    exact h
  have HH := hide hh
  have HV := hide hv
  have HT := hide hT
  have HB := hide hB
  have HB2 := hide hB2
  have HVV := hide hV
  have HB0 := hide B0
  have HB1 := hide B1
  have HE0 := hide E0
  clear hh hv hT hB hB2 hV B0 B1 E0
  go_enter Tryd.func8, Tryd.ntmps8
  go_wp2_with fail
  rw [← unhide HVV]
  refine (newDecoder_any p V).mono ?_
  rintro e w1 ⟨⟨D, b1, b2, b3, rfl, hd, hm, hD, _, _, _, m1, m2, m3⟩, E1⟩
  obtain ⟨hv1, kv1, rs1, hBD, _, _, hD1, _⟩ := id hd
  have HD := hide hd
  have HM := hide hm
  have HW1 := hide ((unhide HE0).trans E1)
  replace HB0 := hide (E1.kept (unhide HB0))
  replace HB1 := hide (E1.kept (unhide HB1))
  have HBD := hide hBD
  clear hd hm E1 hBD HVV HE0
  have c0 := cells_of (unhide HB0) 0 _ rfl
  go_upto_region 2 with fail
  refine wp_region_held_drew (S := fun W => W.cell? ⟨w.heap.size, 0, none⟩ = some (.slice ha hs.length hc)) (by kernel_rfl) c0 (fun hHeld => ?_)
  have HX0 := hide ((Ext.refl w1).drew)
  generalize w1.drew = W0 at *
  refine wpAnyH_take (i := 0) (v := ?_) rfl (by kernel_rfl) (by kernel_rfl) (by kernel_rfl) (fun _ _ _ h => h) (Or.inl ⟨by rfl, ?_⟩) (by assumption) ?_
  rotate_left
  · intro w' hSw; go_simp <;> with_reducible rfl
  simp only [Act.put, qA, qB, qC, qD, qE, qF]
  refine wpAnyH_take (i := 2) (v := ?_) rfl (by kernel_rfl) (by kernel_rfl) (by kernel_rfl) (fun _ _ _ h => h) (Or.inl ⟨by rfl, ?_⟩) (by assumption) ?_
  rotate_left
  · intro w' hSw; go_simp <;> with_reducible rfl
  simp only [Act.put, qA, qB, qC, qD, qE, qF]
  refine wpAnyH_take (i := 3) (v := ?_) rfl (by kernel_rfl) (by kernel_rfl) (by kernel_rfl) (fun _ _ _ h => h) (Or.inl ⟨by rfl, ?_⟩) (by assumption) ?_
  rotate_left
  · intro w' hSw; go_simp <;> with_reducible rfl
  simp only [Act.put, qA, qB, qC, qD, qE, qF]
  refine wpAnyH_take (i := 4) (v := ?_) rfl (by kernel_rfl) (by kernel_rfl) (by kernel_rfl) (fun _ _ _ h => h) (Or.inl ⟨by rfl, ?_⟩) (by assumption) ?_
  rotate_left
  · intro w' hSw; go_simp <;> with_reducible rfl
  simp only [Act.put, qA, qB, qC, qD, qE, qF]
  refine wpAnyH_ready (rs := [1, 5]) (by kernel_rfl) (by simp) ?_
  refine AllReadyH.cons rfl (fun K hK => ?_) (AllReadyH.cons rfl (fun K hK => ?_) AllReadyH.nil)
  · go_simp
    refine (start_any D _ _ _ _ _ p W0 ((unhide HX0).kept (unhide HBD))).mono ?_
    rintro e w2 ⟨⟨q, r, s, t, y, z, rfl, sts, a1, a2, a3, a4, a5, a6, a7⟩, F1⟩
    obtain ⟨sv, hsv⟩ : ∃ sv, sv = (if p = true then pastedF s else groundF q (q + 1) (q + 2) (q + 3)) := ⟨_, rfl⟩
    rw [← hsv]
    have HS := hide sts
    have HF1 := hide F1
    have HSV := hide hsv
    clear sts F1 hsv
    refine hK.out _ _ (((unhide HX0).trans (unhide HF1)).cell c0) (fun hHeld => ?_)
    clear hK K
    refine wpAnyH_ready (rs := [5]) (by kernel_rfl) (by simp) ?_
    refine AllReadyH.cons rfl (fun K hK => ?_) AllReadyH.nil
    obtain ⟨w3, hw3⟩ : ∃ V, V = World.alloc w2 (.cells #[.slice ha hs.length hc, .slice va bs.length vc] 22) := ⟨_, rfl⟩
    have HFP : Hid (Ext w2 w3) := hide (by rw [hw3]; exact (Ext.refl _).alloc _)
    have HBP : Hid (w3.heap[w2.heap.size]? = some (.cells #[.slice ha hs.length hc, .slice va bs.length vc] 22 (0, 0))) := hide (by rw [hw3]; exact new_block _ _)
    have hzP : w3.heap.size = w2.heap.size + 1 := by rw [hw3]; simp
    go_simp
    rw [← hw3]
    clear hw3
    have HX3 := hide (((unhide HX0).trans (unhide HF1)).trans (unhide HFP))
    have HXq := hide (Ext.refl W0)
    have HXz := hide (unhide HFP)
    have HS3 := hide (sts_ext (unhide HS) (unhide HFP))
    have HBP3 := hide (unhide HBP)
    refine hK.out _ _ ((unhide HX3).cell c0) (fun hHeld => ?_)
    clear hK K
    refine wpAnyH_ready (rs := [6]) (by kernel_rfl) (by simp) ?_
    refine AllReadyH.cons rfl (fun K hK => ?_) AllReadyH.nil
    go_simp
    have k3 := kw_start (p := p) (unhide HD) (unhide HX3) (unhide HM) m1 m2 m3 (by have := (unhide HX0).size; have := (unhide HXq).size; omega) a2 a3 a4 a5 a6 (by have := (unhide HXz).size; omega) (unhide HS3) w (unhide HT) (by omega) ((unhide HW1).trans (unhide HX3))
    have hw3 := ((unhide HW1).trans (unhide HX3)).size
    have zX3 := (unhide HX3).size
    have hPl := lt_of_block (unhide HBP3)
    refine (readAll_any _ p hs bs w2.heap.size _ _ _ w3 k3 (unhide HBP3) hPl (by show w2.heap.size ≠ D; have := (unhide HX0).size; have := (unhide HXq).size; omega) (fun w' hf => ?_) (fun w' hf => ?_) (unhide HB) (unhide HB2) hl sv ?_).mono ?_
    · exact ints_fr (unhide HH) ((unhide HW1).trans (unhide HX3)) hf (fun k hk => by show ¬ (k = D ∨ (w3.heap.size ≤ k ∧ ¬ False)); omega)
    · exact ints_fr (unhide HV) ((unhide HW1).trans (unhide HX3)) hf (fun k hk => by show ¬ (k = D ∨ (w3.heap.size ≤ k ∧ ¬ False)); omega)
    · rw [unhide HSV]
      cases p <;> simp [Kc.mode, Kc.ground]
    rintro e w6 ⟨rfl, v6, _, k6, f6⟩
    obtain ⟨hv6, kv6, rs6, hB6, hO6, hK6, _, _, _⟩ := k6.dk
    have HO6 := hide hO6
    have HK6 := hide hK6
    have b0 := f6.kept ((unhide HX3).kept (unhide HB0)) (by show ¬ (w.heap.size = D ∨ (w3.heap.size ≤ w.heap.size ∧ ¬ False)); omega)
    have b1 := f6.kept ((unhide HX3).kept (unhide HB1)) (by show ¬ (w.heap.size + 1 = D ∨ (w3.heap.size ≤ w.heap.size + 1 ∧ ¬ False)); omega)
    have HE6 : Hid (Ext w w6) := hide (f6.ext ((unhide HW1).trans (unhide HX3)) (fun k hk => by have hk2 : k = D ∨ (w3.heap.size ≤ k ∧ ¬ False) := hk; omega))
    refine hK.out _ _ (cells_of b0 0 _ rfl) (fun hHeld => ?_)
    clear hK K
    refine wpAnyH_done (by kernel_rfl) ?_ _
    have d0 := cells_of hB6 0 _ rfl
    have d1 := cells_of hB6 1 _ rfl
    have d2 := cells_of hB6 2 _ rfl
    have r0 := cells_of b1 0 _ rfl
    have r1 := cells_of b1 1 _ rfl
    have n0 : w6.frozen? ⟨w.heap.size + 1, 0, none⟩ = false := Lib.frozen_of_heap b1 0
    have n1 : w6.frozen? ⟨w.heap.size + 1, 1, none⟩ = false := Lib.frozen_of_heap b1 1
    obtain ⟨oa, oc, rfl, _, _⟩ := ints_of_owns hO6
    obtain ⟨ka, kc, rfl⟩ := hK6.slice
    have hbw := (unhide HE6).size
    have hB9 := (Fr.setCell (S := fun q => q = w.heap.size + 1) (Fr.setCell (S := fun q => q = w.heap.size + 1) (Fr.refl _ w6) (a := ⟨w.heap.size + 1, 0, none⟩) rfl (.slice oa (rkH (hs ++ bs) p).length oc)) (a := ⟨w.heap.size + 1, 1, none⟩) rfl (.bool (rk (hs ++ bs) p).2.2)).kept hB6 (by show ¬ D = w.heap.size + 1; omega)
    have s0 := cells_of hB9 0 _ rfl
    have s1 := cells_of hB9 1 _ rfl
    have s2 := cells_of hB9 2 _ rfl
    clear k3 k6 f6 b0 b1 hB6 hO6 hK6 hB9
    go_wp2
    go_region_held3 (fun W => W.cell? ⟨D, 0, none⟩ = some (.slice oa (rkH (hs ++ bs) p).length oc) ∧ W.cell? ⟨D, 1, none⟩ = some (.bool (rk (hs ++ bs) p).2.2) ∧ W.cell? ⟨D, 2, none⟩ = some (.slice ka (rk (hs ++ bs) p).1.length kc)) (first | exact ⟨d0, d1, d2⟩ | exact ⟨s0, s1, s2⟩) (fail)
    all_goals
      go_wp2
      have f9 : Fr (fun q => q = w.heap.size + 1) w6 ((w6.setCell ⟨w.heap.size + 1, 0, none⟩ (.slice oa (rkH (hs ++ bs) p).length oc)).setCell ⟨w.heap.size + 1, 1, none⟩ (.bool (rk (hs ++ bs) p).2.2)).drew := Fr.tr (Fr.setCell (S := fun q => q = w.heap.size + 1) (Fr.setCell (S := fun q => q = w.heap.size + 1) (Fr.refl _ w6) (a := ⟨w.heap.size + 1, 0, none⟩) rfl (.slice oa (rkH (hs ++ bs) p).length oc)) (a := ⟨w.heap.size + 1, 1, none⟩) rfl (.bool (rk (hs ++ bs) p).2.2)) (Fr.of_ext (Ext.refl _).drew)
      refine bodyPost_ret (v := .tuple #[.agg #[.slice oa (rkH (hs ++ bs) p).length oc, .bool (rk (hs ++ bs) p).2.2], .slice ka (rk (hs ++ bs) p).1.length kc]) (by simp [results, Tryd.results8, go_sem, r0, r1]) rfl ⟨⟨_, _, rs6, rfl, ?_, ?_⟩, f9.ext (unhide HE6) (fun q hq => by omega)⟩
      · exact owns_mono (f9.owns (unhide HO6) (fun g hg e => by have h1 : w3.heap.size ≤ g := ((unhide HO6).lt g hg).1; omega)) hw3
      · exact (OwnKys.fr (unhide HK6) f9 (fun g hg e => by have h1 : w3.heap.size ≤ g := ((unhide HK6).foot hg).1; omega)).down hw3
  · obtain ⟨w2, hw2⟩ : ∃ V, V = World.alloc W0 (.cells #[.slice ha hs.length hc, .slice va bs.length vc] 22) := ⟨_, rfl⟩
    have HFP : Hid (Ext W0 w2) := hide (by rw [hw2]; exact (Ext.refl _).alloc _)
    have HBP : Hid (w2.heap[W0.heap.size]? = some (.cells #[.slice ha hs.length hc, .slice va bs.length vc] 22 (0, 0))) := hide (by rw [hw2]; exact new_block _ _)
    have hzP : w2.heap.size = W0.heap.size + 1 := by rw [hw2]; simp
    go_simp
    rw [← hw2]
    clear hw2
    refine hK.out _ _ (((unhide HX0).trans (unhide HFP)).cell c0) (fun hHeld => ?_)
    clear hK K
    refine wpAnyH_ready (rs := [1]) (by kernel_rfl) (by simp) ?_
    refine AllReadyH.cons rfl (fun K hK => ?_) AllReadyH.nil
    go_simp
    refine (start_any D _ _ _ _ _ p w2 (((unhide HX0).trans (unhide HFP)).kept (unhide HBD))).mono ?_
    rintro e w3 ⟨⟨q, r, s, t, y, z, rfl, sts, a1, a2, a3, a4, a5, a6, a7⟩, F1⟩
    obtain ⟨sv, hsv⟩ : ∃ sv, sv = (if p = true then pastedF s else groundF q (q + 1) (q + 2) (q + 3)) := ⟨_, rfl⟩
    rw [← hsv]
    have HS := hide sts
    have HF1 := hide F1
    have HSV := hide hsv
    clear sts F1 hsv
    have HX3 := hide (((unhide HX0).trans (unhide HFP)).trans (unhide HF1))
    have HXq := hide (unhide HFP)
    have HXz := hide (Ext.refl w3)
    have HS3 := hide (unhide HS)
    have HBP3 := hide ((unhide HF1).kept (unhide HBP))
    refine hK.out _ _ ((unhide HX3).cell c0) (fun hHeld => ?_)
    clear hK K
    refine wpAnyH_ready (rs := [6]) (by kernel_rfl) (by simp) ?_
    refine AllReadyH.cons rfl (fun K hK => ?_) AllReadyH.nil
    go_simp
    have k3 := kw_start (p := p) (unhide HD) (unhide HX3) (unhide HM) m1 m2 m3 (by have := (unhide HX0).size; have := (unhide HXq).size; omega) a2 a3 a4 a5 a6 (by have := (unhide HXz).size; omega) (unhide HS3) w (unhide HT) (by omega) ((unhide HW1).trans (unhide HX3))
    have hw3 := ((unhide HW1).trans (unhide HX3)).size
    have zX3 := (unhide HX3).size
    have hPl := lt_of_block (unhide HBP3)
    refine (readAll_any _ p hs bs W0.heap.size _ _ _ w3 k3 (unhide HBP3) hPl (by show W0.heap.size ≠ D; have := (unhide HX0).size; have := (unhide HXq).size; omega) (fun w' hf => ?_) (fun w' hf => ?_) (unhide HB) (unhide HB2) hl sv ?_).mono ?_
    · exact ints_fr (unhide HH) ((unhide HW1).trans (unhide HX3)) hf (fun k hk => by show ¬ (k = D ∨ (w3.heap.size ≤ k ∧ ¬ False)); omega)
    · exact ints_fr (unhide HV) ((unhide HW1).trans (unhide HX3)) hf (fun k hk => by show ¬ (k = D ∨ (w3.heap.size ≤ k ∧ ¬ False)); omega)
    · rw [unhide HSV]
      cases p <;> simp [Kc.mode, Kc.ground]
    rintro e w6 ⟨rfl, v6, _, k6, f6⟩
    obtain ⟨hv6, kv6, rs6, hB6, hO6, hK6, _, _, _⟩ := k6.dk
    have HO6 := hide hO6
    have HK6 := hide hK6
    have b0 := f6.kept ((unhide HX3).kept (unhide HB0)) (by show ¬ (w.heap.size = D ∨ (w3.heap.size ≤ w.heap.size ∧ ¬ False)); omega)
    have b1 := f6.kept ((unhide HX3).kept (unhide HB1)) (by show ¬ (w.heap.size + 1 = D ∨ (w3.heap.size ≤ w.heap.size + 1 ∧ ¬ False)); omega)
    have HE6 : Hid (Ext w w6) := hide (f6.ext ((unhide HW1).trans (unhide HX3)) (fun k hk => by have hk2 : k = D ∨ (w3.heap.size ≤ k ∧ ¬ False) := hk; omega))
    refine hK.out _ _ (cells_of b0 0 _ rfl) (fun hHeld => ?_)
    clear hK K
    refine wpAnyH_done (by kernel_rfl) ?_ _
    have d0 := cells_of hB6 0 _ rfl
    have d1 := cells_of hB6 1 _ rfl
    have d2 := cells_of hB6 2 _ rfl
    have r0 := cells_of b1 0 _ rfl
    have r1 := cells_of b1 1 _ rfl
    have n0 : w6.frozen? ⟨w.heap.size + 1, 0, none⟩ = false := Lib.frozen_of_heap b1 0
    have n1 : w6.frozen? ⟨w.heap.size + 1, 1, none⟩ = false := Lib.frozen_of_heap b1 1
    obtain ⟨oa, oc, rfl, _, _⟩ := ints_of_owns hO6
    obtain ⟨ka, kc, rfl⟩ := hK6.slice
    have hbw := (unhide HE6).size
    have hB9 := (Fr.setCell (S := fun q => q = w.heap.size + 1) (Fr.setCell (S := fun q => q = w.heap.size + 1) (Fr.refl _ w6) (a := ⟨w.heap.size + 1, 0, none⟩) rfl (.slice oa (rkH (hs ++ bs) p).length oc)) (a := ⟨w.heap.size + 1, 1, none⟩) rfl (.bool (rk (hs ++ bs) p).2.2)).kept hB6 (by show ¬ D = w.heap.size + 1; omega)
    have s0 := cells_of hB9 0 _ rfl
    have s1 := cells_of hB9 1 _ rfl
    have s2 := cells_of hB9 2 _ rfl
    clear k3 k6 f6 b0 b1 hB6 hO6 hK6 hB9
    go_wp2
    go_region_held3 (fun W => W.cell? ⟨D, 0, none⟩ = some (.slice oa (rkH (hs ++ bs) p).length oc) ∧ W.cell? ⟨D, 1, none⟩ = some (.bool (rk (hs ++ bs) p).2.2) ∧ W.cell? ⟨D, 2, none⟩ = some (.slice ka (rk (hs ++ bs) p).1.length kc)) (first | exact ⟨d0, d1, d2⟩ | exact ⟨s0, s1, s2⟩) (fail)
    all_goals
      go_wp2
      have f9 : Fr (fun q => q = w.heap.size + 1) w6 ((w6.setCell ⟨w.heap.size + 1, 0, none⟩ (.slice oa (rkH (hs ++ bs) p).length oc)).setCell ⟨w.heap.size + 1, 1, none⟩ (.bool (rk (hs ++ bs) p).2.2)).drew := Fr.tr (Fr.setCell (S := fun q => q = w.heap.size + 1) (Fr.setCell (S := fun q => q = w.heap.size + 1) (Fr.refl _ w6) (a := ⟨w.heap.size + 1, 0, none⟩) rfl (.slice oa (rkH (hs ++ bs) p).length oc)) (a := ⟨w.heap.size + 1, 1, none⟩) rfl (.bool (rk (hs ++ bs) p).2.2)) (Fr.of_ext (Ext.refl _).drew)
      refine bodyPost_ret (v := .tuple #[.agg #[.slice oa (rkH (hs ++ bs) p).length oc, .bool (rk (hs ++ bs) p).2.2], .slice ka (rk (hs ++ bs) p).1.length kc]) (by simp [results, Tryd.results8, go_sem, r0, r1]) rfl ⟨⟨_, _, rs6, rfl, ?_, ?_⟩, f9.ext (unhide HE6) (fun q hq => by omega)⟩
      · exact owns_mono (f9.owns (unhide HO6) (fun g hg e => by have h1 : w3.heap.size ≤ g := ((unhide HO6).lt g hg).1; omega)) hw3
      · exact (OwnKys.fr (unhide HK6) f9 (fun g hg e => by have h1 : w3.heap.size ≤ g := ((unhide HK6).foot hg).1; omega)).down hw3
end Go.Proofs.YtbieoijeilhadaaDoor
