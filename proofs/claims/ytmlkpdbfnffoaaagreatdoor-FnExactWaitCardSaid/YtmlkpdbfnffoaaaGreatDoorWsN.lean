import Derived.Test.YtmlkpdbfnffoaaaGreatDoorWsKb
namespace Go.Proofs.YtmlkpdbfnffoaaaGreatDoor
open Go.RowKit
set_option linter.unusedSimpArgs false in
set_option maxRecDepth 10000 in
set_option maxHeartbeats 8000000 in
theorem zf8 (s : SS) (cap : Int) (hn : Nat) (ht : Nat → ByteArray) (u h p q l d hv : Value) (w : World) (hA : zbb w s u h p q l d) (hH : zah w hv hn (fun j => .string (ht j))) (hHn : hn ≤ 1048576) (hHx : ∀ j, j < hn → (ht j).size ≤ 1048576) (hz : s.Sz) (cd : Int) (hcd : ¬ (zcv s ∧ zbY cap hn ht) ∧ cd = 1 ∨ (zcv s ∧ zbY cap hn ht) ∧ s.st = true ∧ cd = 3) :
  Calls Tryz.prog 7 #[zaK s u h p q l d, .agg #[.int .i64 cap, hv]] w fun e w' => ∃ v0 S0 v1 S1 v2 S2, e = .returned (.tuple #[v0, v1, v2, .int .i64 cd]) ∧ (zeU s).O w' w.heap.size S0 v0 ∧ (ze3 cap hn (fun j => .string (ht j))).O w' w.heap.size S1 v1 ∧ (zcz []).O w' w.heap.size S2 v2 ∧ (∀ g, S0 g → ¬ S1 g) ∧ (∀ g, S0 g → ¬ S2 g) ∧ (∀ g, S1 g → ¬ S2 g) ∧ Ext w w' := by
 have hcC := zi (fun W (hW : Ext w W) => zhn s u h p q l d W (hA.ext hW) hz)
 have hcH := zi (fun W (hW : Ext w W) => zcZ cap hv hn ht W (hH.ext hW) hHn)
 have hcR := zi (fun W (hW : Ext w W) => zel s u h p q l d cap hv hn ht W (hA.ext hW) hz (hH.ext hW) hHn hHx cd (hcd.imp id (fun h => .inl h)))
 have hc0 : (cd == 0) = false := by rcases hcd with h | h; simp [h.2]; simp [h.2.2]
 have hc1 : ¬ cd = 0 := by rcases hcd with h | h <;> omega
 have hc2 : (cd != 0) = true := by simpa using hc1
 obtain ⟨ua, uc, ha, hc, pa, pc, qa, qc, la, lc, da, dc, rfl, rfl, rfl, rfl, rfl, rfl⟩ := hA.forms
 obtain ⟨hva, hvc, rfl, _, _⟩ := hH
 simp only [zb3] at hcC hcR
 rw [zb3]
 clear hA hHx hz hcd
 obtain ⟨V, hV⟩ : ∃ V, V = ((((w.alloc (.cells (ze s (.slice ua s.un uc) (.slice ha s.kh.length hc) (.slice pa s.pn pc) (.slice qa s.qn qc) (.slice la s.ln lc) (.slice da s.dn dc)) 40)).alloc (.cells #[.int .i64 cap, .slice hva hn hvc] 41)).alloc (.cells zSS 40)).alloc (.cells zH2 41)) := ⟨_, rfl⟩
 have E0 : Ext w V := by rw [hV]; exact ((((Ext.refl w).alloc _).alloc _).alloc _).alloc _
 have zV : Hid (V.heap.size = w.heap.size + 4) := zi (by rw [hV]; simp)
 have HB0 : Hid (V.heap[w.heap.size]? = some (.cells (ze s (.slice ua s.un uc) (.slice ha s.kh.length hc) (.slice pa s.pn pc) (.slice qa s.qn qc) (.slice la s.ln lc) (.slice da s.dn dc)) 40 (0, 0))) := zi (by rw [hV]; exact ((((Ext.refl _).alloc _).alloc _).alloc _).kept (zn w _))
 have HB1 : Hid (V.heap[w.heap.size + 1]? = some (.cells #[.int .i64 cap, .slice hva hn hvc] 41 (0, 0))) := zi (by rw [hV]; refine (((Ext.refl _).alloc _).alloc _).kept ?_; have h := zn (w.alloc (.cells (ze s (.slice ua s.un uc) (.slice ha s.kh.length hc) (.slice pa s.pn pc) (.slice qa s.qn qc) (.slice la s.ln lc) (.slice da s.dn dc)) 40)) (.cells #[.int .i64 cap, .slice hva hn hvc] 41); rw [show (w.alloc (.cells (ze s (.slice ua s.un uc) (.slice ha s.kh.length hc) (.slice pa s.pn pc) (.slice qa s.qn qc) (.slice la s.ln lc) (.slice da s.dn dc)) 40)).heap.size = w.heap.size + 1 by simp] at h; exact h)
 have HZS : Hid (V.heap[w.heap.size + 2]? = some (.cells zSS 40 (0, 0))) := zi (by rw [hV]; refine ((Ext.refl _).alloc _).kept ?_; have h := zn ((w.alloc (.cells (ze s (.slice ua s.un uc) (.slice ha s.kh.length hc) (.slice pa s.pn pc) (.slice qa s.qn qc) (.slice la s.ln lc) (.slice da s.dn dc)) 40)).alloc (.cells #[.int .i64 cap, .slice hva hn hvc] 41)) (.cells zSS 40); rw [show ((w.alloc (.cells (ze s (.slice ua s.un uc) (.slice ha s.kh.length hc) (.slice pa s.pn pc) (.slice qa s.qn qc) (.slice la s.ln lc) (.slice da s.dn dc)) 40)).alloc (.cells #[.int .i64 cap, .slice hva hn hvc] 41)).heap.size = w.heap.size + 2 by simp] at h; exact h)
 have HZH : Hid (V.heap[w.heap.size + 3]? = some (.cells zH2 41 (0, 0))) := zi (by rw [hV]; have h := zn (((w.alloc (.cells (ze s (.slice ua s.un uc) (.slice ha s.kh.length hc) (.slice pa s.pn pc) (.slice qa s.qn qc) (.slice la s.ln lc) (.slice da s.dn dc)) 40)).alloc (.cells #[.int .i64 cap, .slice hva hn hvc] 41)).alloc (.cells zSS 40)) (.cells zH2 41); rw [show (((w.alloc (.cells (ze s (.slice ua s.un uc) (.slice ha s.kh.length hc) (.slice pa s.pn pc) (.slice qa s.qn qc) (.slice la s.ln lc) (.slice da s.dn dc)) 40)).alloc (.cells #[.int .i64 cap, .slice hva hn hvc] 41)).alloc (.cells zSS 40)).heap.size = w.heap.size + 3 by simp] at h; exact h)
 have HV := zi hV
 have HE := zi E0
 clear hV E0
 go_enter Tryz.func7, Tryz.ntmps7
 go_upto_region 1 with fail
 rw [← zg HV]
 clear HV
 go_wp2_with (refine zm rfl 40 _ rfl (w.heap.size) rfl _ _ _ _ (zg HB0) Tryz.underlying40 rfl zap ?_)
 refine ((zg hcC) _ (zg HE)).mono ?_
 rintro e w1 ⟨u1, h1, p1, q1, l1, d1, rfl, hO, E1⟩
 obtain ⟨u1a, u1c, h1a, h1c, p1a, p1c, q1a, q1c, l1a, l1c, d1a, d1c, rfl, rfl, rfl, rfl, rfl, rfl⟩ := hO.reads.forms
 have HO1 := zi hO
 have z1 : Hid (w.heap.size + 4 ≤ w1.heap.size) := zi (by have := E1.size; have := zg zV; omega)
 replace HE := Hid.ht HE E1
 replace HB0 := E1.hk HB0
 replace HB1 := E1.hk HB1
 replace HZS := E1.hk HZS
 replace HZH := E1.hk HZH
 clear hO E1 hcC
 go_wp2_with (first
  | (refine zy rfl 40 _ _ rfl rfl (w1.heap.size) rfl _ _ (ze s (.slice u1a s.un u1c) (.slice h1a s.kh.length h1c) (.slice p1a s.pn p1c) (.slice q1a s.qn q1c) (.slice l1a s.ln l1c) (.slice d1a s.dn d1c)) rfl (zn w1 _) zap rfl (by simp [Value.oneCell', ze]) ?_; intro U1 hB hU; have HU1 := zi (hU.ext ((Ext.refl w1).alloc _) (fun q hq => by omega)); have HB8 := zi hB; clear hB hU)
  | (refine zm rfl 41 _ rfl (w.heap.size + 1) rfl _ _ _ _ ((zg HU1).kept (zg HB1)) Tryz.underlying41 rfl zaB ?_))
 refine ((zg hcH) _ ((zg HE).trans (zg HU1))).mono ?_
 rintro e w2 ⟨va, vc, rfl, hO2, E2⟩
 have EU := (zg HU1).trans E2
 have HO2 := zi hO2
 have z2 : Hid (w1.heap.size < U1.heap.size ∧ U1.heap.size ≤ w2.heap.size) := zi ⟨zt (zg HB8), E2.size⟩
 have HO1' := zi ((zg HO1).ext EU)
 have HF1 : Hid (∀ g, zab (.slice u1a s.un u1c) (.slice h1a s.kh.length h1c) (.slice p1a s.pn p1c) (.slice q1a s.qn q1c) (.slice l1a s.ln l1c) (.slice d1a s.dn d1c) g → V.heap.size ≤ g ∧ g < w1.heap.size) := zi (fun g hg => (zg HO1).foot hg)
 have HF2 : Hid (∀ g, (Value.slice va hn vc).ownBlock = some g → U1.heap.size ≤ g ∧ g < w2.heap.size) := zi (fun g hg => (zg HO2).lt g hg)
 replace HE := Hid.ht HE EU
 replace HB0 := EU.hk HB0
 replace HB1 := EU.hk HB1
 replace HZS := EU.hk HZS
 replace HZH := EU.hk HZH
 replace HB8 := E2.hk HB8
 clear hO2 E2 EU HU1 HO1 hcH
 go_wp2_with (first
  | (refine zy rfl 41 _ _ rfl rfl (w2.heap.size) rfl _ _ #[.int .i64 cap, .slice va hn vc] rfl (zn w2 _) zaB rfl (by simp [Value.oneCell']) ?_; intro U2 hB hU; have HU2 := zi (hU.ext ((Ext.refl w2).alloc _) (fun q hq => by omega)); have HB9 := zi hB; clear hB hU)
  | (refine zm rfl 40 _ rfl (w.heap.size) rfl _ _ _ _ ((zg HU2).kept (zg HB0)) Tryz.underlying40 rfl zap ?_)
  | (refine zm rfl 41 _ rfl (w.heap.size + 1) rfl _ _ _ _ ((zg HU2).kept (zg HB1)) Tryz.underlying41 rfl zaB ?_))
 refine ((zg hcR) _ ((zg HE).trans (zg HU2))).mono ?_
 rintro e w3 ⟨rfl, E3⟩
 have EU := (zg HU2).trans E3
 have z3 : Hid (w2.heap.size < w3.heap.size) := zi (zt (E3.kept (zg HB9)))
 replace HO1' := zi ((zg HO1').ext EU)
 replace HO2 := zi ((zg HO2).ext EU)
 replace HE := Hid.ht HE EU
 replace HB0 := EU.hk HB0
 replace HZS := EU.hk HZS
 replace HZH := EU.hk HZH
 replace HB8 := EU.hk HB8
 replace HB9 := E3.hk HB9
 clear E3 EU HU2 HB1 hcR
 have HLT : Hid (w.heap.size + 4 ≤ w1.heap.size ∧ w1.heap.size < w2.heap.size ∧ w2.heap.size < w3.heap.size) := zi (by have h1 := zg z1; have h2 := zg z2; have h3 := zg z3; omega)
 go_upto_region 5 with fail
 go_cut [6, 7] (fun v6 v7 wq => ∃ bs : Nat, v6 = .slice (some ⟨bs, 0, none⟩) 0 0 ∧ v7 = .int .i64 cd ∧ Hid (wq.heap[w.heap.size + 2]? = some (.cells (ze s (.slice u1a s.un u1c) (.slice h1a s.kh.length h1c) (.slice p1a s.pn p1c) (.slice q1a s.qn q1c) (.slice l1a s.ln l1c) (.slice d1a s.dn d1c)) 40 (0, 0))) ∧ Hid (wq.heap[w.heap.size + 3]? = some (.cells #[.int .i64 cap, .slice va hn vc] 41 (0, 0))) ∧ Hid (wq.heap[bs]? = some (.cells #[] 5 (0, 0))) ∧ Hid (w3.heap.size ≤ bs) ∧ Hid (Fr (fun q => q = w.heap.size + 2 ∨ q = w.heap.size + 3) w3 wq))
 case first =>
  refine wp_region_held_drew (S := fun W => W.heap[w1.heap.size]? = some (.cells (ze s (.slice u1a s.un u1c) (.slice h1a s.kh.length h1c) (.slice p1a s.pn p1c) (.slice q1a s.qn q1c) (.slice l1a s.ln l1c) (.slice d1a s.dn d1c)) 40 (0, 0)) ∧ W.heap[w2.heap.size]? = some (.cells #[.int .i64 cap, .slice va hn vc] 41 (0, 0))) (by kernel_rfl) ⟨zg HB8, zg HB9⟩ (fun hHeld => ?_)
  refine tk 0 (.agg (ze s (.slice u1a s.un u1c) (.slice h1a s.kh.length h1c) (.slice p1a s.pn p1c) (.slice q1a s.qn q1c) (.slice l1a s.ln l1c) (.slice d1a s.dn d1c))) rfl (by kernel_rfl) (fun _ _ _ h => h) (by rfl) ?_ (by assumption) ?_
  ·intro w' hSw; exact zae 40 _ rfl (w1.heap.size) rfl _ _ _ _ hSw.1 Tryz.underlying40 rfl zap
  simp only [Act.put, q9]
  refine tk 1 (.agg #[.int .i64 cap, .slice va hn vc]) rfl (by kernel_rfl) (fun _ _ _ h => h) (by rfl) ?_ (by assumption) ?_
  ·intro w' hSw; exact zae 41 _ rfl (w2.heap.size) rfl _ _ _ _ hSw.2 Tryz.underlying41 rfl zaB
  simp only [Act.put, q9]
  refine tk 3 ?_ rfl (by kernel_rfl) (fun _ _ _ h => h) (by rfl) ?_ (by assumption) ?_
  rotate_left
  ·intro w' hSw; go_simp <;> with_reducible rfl
  simp only [Act.put, q9]
  have G9 := zi ((Ext.refl w3).drew)
  have FF : Hid (Fr (fun q => q = w.heap.size + 2 ∨ q = w.heap.size + 3) w3 w3.drew) := zi (Fr.of_ext (zg G9))
  replace HZS := zi ((zg G9).kept (zg HZS))
  replace HZH := zi ((zg G9).kept (zg HZH))
  generalize w3.drew = Y0 at *
  clear G9
  refine wpAnyH_ready (rs := [2, 4]) (by kernel_rfl) (by simp) ?_
  refine AllReadyH.cons rfl (fun K hK => ?tg1) (AllReadyH.cons rfl (fun K hK => ?tg2) AllReadyH.nil)
  case tg1 =>
   go_simp
   have n9 := zn Y0 (.cells #[] 5)
   have f9 := (Ext.refl Y0).alloc (.cells #[] 5)
   have l9 : Hid (w3.heap.size ≤ Y0.heap.size) := zi (zg FF).size
   generalize Y0.alloc (.cells #[] 5) = Y1 at n9 f9 ⊢
   obtain ⟨bs, hbs⟩ : ∃ bs, bs = Y0.heap.size := ⟨_, rfl⟩
   rw [← hbs] at n9 l9 ⊢
   clear hbs
   have HSl := zi n9
   replace FF := zi ((zg FF).tr (Fr.of_ext f9))
   replace HZS := f9.hk HZS
   replace HZH := f9.hk HZH
   clear n9 f9
   clear hHeld
   refine hK.out _ _ ⟨(zg FF).kept (zg HB8) (by have := zg HLT; omega), (zg FF).kept (zg HB9) (by have := zg HLT; omega)⟩ (fun hHeld => ?_)
   clear hK K
   refine rdy 4 (by kernel_rfl) rfl (fun K hK => ?_)
   refine zad 40 _ _ rfl rfl (w.heap.size + 2) rfl _ _ (ze s (.slice u1a s.un u1c) (.slice h1a s.kh.length h1c) (.slice p1a s.pn p1c) (.slice q1a s.qn q1c) (.slice l1a s.ln l1c) (.slice d1a s.dn d1c)) rfl (zg HZS) zap rfl (by simp [Value.oneCell', ze]) ?_
   intro Y2 hb9 hf9
   replace HZS := zi hb9
   replace HZH := zi (hf9.kept (zg HZH) (by omega))
   replace HSl := zi (hf9.kept (zg HSl) (by have := zg l9; have := zg HLT; omega))
   replace FF := zi ((zg FF).tr (hf9.mono (fun q hq => by omega)))
   clear hb9 hf9
   clear hHeld
   refine hK.out _ _ ⟨(zg FF).kept (zg HB8) (by have := zg HLT; omega), (zg FF).kept (zg HB9) (by have := zg HLT; omega)⟩ (fun hHeld => ?_)
   clear hK K
   refine rdy 5 (by kernel_rfl) rfl (fun K hK => ?_)
   refine zad 41 _ _ rfl rfl (w.heap.size + 3) rfl _ _ #[.int .i64 cap, .slice va hn vc] rfl (zg HZH) zaB rfl (by simp [Value.oneCell']) ?_
   intro X hb9 hf9
   replace HZH := zi hb9
   replace HZS := zi (hf9.kept (zg HZS) (by omega))
   replace HSl := zi (hf9.kept (zg HSl) (by have := zg l9; have := zg HLT; omega))
   replace FF := zi ((zg FF).tr (hf9.mono (fun q hq => by omega)))
   clear hb9 hf9
   clear hHeld
   refine hK.out _ _ ⟨(zg FF).kept (zg HB8) (by have := zg HLT; omega), (zg FF).kept (zg HB9) (by have := zg HLT; omega)⟩ (fun hHeld => ?_)
   clear hK K
   refine tk 6 ?_ rfl (by kernel_rfl) (fun _ _ _ h => h) (by rfl) ?_ (by assumption) ?_
   rotate_left
   ·intro w' hSw; go_simp <;> with_reducible rfl
   simp only [Act.put, q9]
   refine tk 7 ?_ rfl (by kernel_rfl) (fun _ _ _ h => h) (by rfl) ?_ (by assumption) ?_
   rotate_left
   ·intro w' hSw; go_simp <;> with_reducible rfl
   simp only [Act.put, q9]
   refine wpAnyH_done (by kernel_rfl) ?_ _
   go_wp2
   go_meet
   exact ⟨bs, rfl, rfl, HZS, HZH, HSl, l9, FF⟩
  case tg2 =>
   refine zad 40 _ _ rfl rfl (w.heap.size + 2) rfl _ _ (ze s (.slice u1a s.un u1c) (.slice h1a s.kh.length h1c) (.slice p1a s.pn p1c) (.slice q1a s.qn q1c) (.slice l1a s.ln l1c) (.slice d1a s.dn d1c)) rfl (zg HZS) zap rfl (by simp [Value.oneCell', ze]) ?_
   intro Y4 hb9 hf9
   replace HZS := zi hb9
   replace HZH := zi (hf9.kept (zg HZH) (by omega))
   replace FF := zi ((zg FF).tr (hf9.mono (fun q hq => by omega)))
   clear hb9 hf9
   clear hHeld
   refine hK.out _ _ ⟨(zg FF).kept (zg HB8) (by have := zg HLT; omega), (zg FF).kept (zg HB9) (by have := zg HLT; omega)⟩ (fun hHeld => ?_)
   clear hK K
   refine wpAnyH_ready (rs := [2, 5]) (by kernel_rfl) (by simp) ?_
   refine AllReadyH.cons rfl (fun K hK => ?tg3) (AllReadyH.cons rfl (fun K hK => ?tg4) AllReadyH.nil)
   case tg3 =>
    go_simp
    have n9 := zn Y4 (.cells #[] 5)
    have f9 := (Ext.refl Y4).alloc (.cells #[] 5)
    have l9 : Hid (w3.heap.size ≤ Y4.heap.size) := zi (zg FF).size
    generalize Y4.alloc (.cells #[] 5) = Y5 at n9 f9 ⊢
    obtain ⟨bs, hbs⟩ : ∃ bs, bs = Y4.heap.size := ⟨_, rfl⟩
    rw [← hbs] at n9 l9 ⊢
    clear hbs
    have HSl := zi n9
    replace FF := zi ((zg FF).tr (Fr.of_ext f9))
    replace HZS := f9.hk HZS
    replace HZH := f9.hk HZH
    clear n9 f9
    clear hHeld
    refine hK.out _ _ ⟨(zg FF).kept (zg HB8) (by have := zg HLT; omega), (zg FF).kept (zg HB9) (by have := zg HLT; omega)⟩ (fun hHeld => ?_)
    clear hK K
    refine rdy 5 (by kernel_rfl) rfl (fun K hK => ?_)
    refine zad 41 _ _ rfl rfl (w.heap.size + 3) rfl _ _ #[.int .i64 cap, .slice va hn vc] rfl (zg HZH) zaB rfl (by simp [Value.oneCell']) ?_
    intro X hb9 hf9
    replace HZH := zi hb9
    replace HZS := zi (hf9.kept (zg HZS) (by omega))
    replace HSl := zi (hf9.kept (zg HSl) (by have := zg l9; have := zg HLT; omega))
    replace FF := zi ((zg FF).tr (hf9.mono (fun q hq => by omega)))
    clear hb9 hf9
    clear hHeld
    refine hK.out _ _ ⟨(zg FF).kept (zg HB8) (by have := zg HLT; omega), (zg FF).kept (zg HB9) (by have := zg HLT; omega)⟩ (fun hHeld => ?_)
    clear hK K
    refine tk 6 ?_ rfl (by kernel_rfl) (fun _ _ _ h => h) (by rfl) ?_ (by assumption) ?_
    rotate_left
    ·intro w' hSw; go_simp <;> with_reducible rfl
    simp only [Act.put, q9]
    refine tk 7 ?_ rfl (by kernel_rfl) (fun _ _ _ h => h) (by rfl) ?_ (by assumption) ?_
    rotate_left
    ·intro w' hSw; go_simp <;> with_reducible rfl
    simp only [Act.put, q9]
    refine wpAnyH_done (by kernel_rfl) ?_ _
    go_wp2
    go_meet
    exact ⟨bs, rfl, rfl, HZS, HZH, HSl, l9, FF⟩
   case tg4 =>
    refine zad 41 _ _ rfl rfl (w.heap.size + 3) rfl _ _ #[.int .i64 cap, .slice va hn vc] rfl (zg HZH) zaB rfl (by simp [Value.oneCell']) ?_
    intro Y7 hb9 hf9
    replace HZH := zi hb9
    replace HZS := zi (hf9.kept (zg HZS) (by omega))
    replace FF := zi ((zg FF).tr (hf9.mono (fun q hq => by omega)))
    clear hb9 hf9
    clear hHeld
    refine hK.out _ _ ⟨(zg FF).kept (zg HB8) (by have := zg HLT; omega), (zg FF).kept (zg HB9) (by have := zg HLT; omega)⟩ (fun hHeld => ?_)
    clear hK K
    refine rdy 2 (by kernel_rfl) rfl (fun K hK => ?_)
    go_simp
    have n9 := zn Y7 (.cells #[] 5)
    have f9 := (Ext.refl Y7).alloc (.cells #[] 5)
    have l9 : Hid (w3.heap.size ≤ Y7.heap.size) := zi (zg FF).size
    generalize Y7.alloc (.cells #[] 5) = X at n9 f9 ⊢
    obtain ⟨bs, hbs⟩ : ∃ bs, bs = Y7.heap.size := ⟨_, rfl⟩
    rw [← hbs] at n9 l9 ⊢
    clear hbs
    have HSl := zi n9
    replace FF := zi ((zg FF).tr (Fr.of_ext f9))
    replace HZS := f9.hk HZS
    replace HZH := f9.hk HZH
    clear n9 f9
    clear hHeld
    refine hK.out _ _ ⟨(zg FF).kept (zg HB8) (by have := zg HLT; omega), (zg FF).kept (zg HB9) (by have := zg HLT; omega)⟩ (fun hHeld => ?_)
    clear hK K
    refine tk 6 ?_ rfl (by kernel_rfl) (fun _ _ _ h => h) (by rfl) ?_ (by assumption) ?_
    rotate_left
    ·intro w' hSw; go_simp <;> with_reducible rfl
    simp only [Act.put, q9]
    refine tk 7 ?_ rfl (by kernel_rfl) (fun _ _ _ h => h) (by rfl) ?_ (by assumption) ?_
    rotate_left
    ·intro w' hSw; go_simp <;> with_reducible rfl
    simp only [Act.put, q9]
    refine wpAnyH_done (by kernel_rfl) ?_ _
    go_wp2
    go_meet
    exact ⟨bs, rfl, rfl, HZS, HZH, HSl, l9, FF⟩
 case rest =>
  rename World => X
  obtain ⟨bs, rfl, rfl, HZS, HZH, HSl, l9, FF⟩ := hcut
  go_wp2
  have vS := fun i => cell_of_row X (w.heap.size + 2) i _ _ _ (zg HZS)
  have vH := fun i => cell_of_row X (w.heap.size + 3) i _ _ _ (zg HZH)
  refine bodyPost_ret (v := .tuple #[zaK s (.slice u1a s.un u1c) (.slice h1a s.kh.length h1c) (.slice p1a s.pn p1c) (.slice q1a s.qn q1c) (.slice l1a s.ln l1c) (.slice d1a s.dn d1c), .agg #[.int .i64 cap, .slice va hn vc], .slice (some ⟨bs, 0, none⟩) 0 0, .int .i64 cd]) (by simp [results, Tryz.results7, go_sem, zaK, ze, vS, vH]) rfl ⟨_, _, _, _, _, _, rfl, ze8 (((zg HO1').fr (zg FF) (fun g hg e => by have h1 := (zg HF1) g hg; have h2 := zg zV; omega)).mono (by have h2 := zg zV; omega)), ze9 (((zg HO2).fr (zg FF) (fun g hg e => by have h1 := (zg HF2) g hg; have h2 := zg z2; have h3 := zg z1; omega)).mono (by have h2 := zg z2; have h3 := zg z1; omega)), zev (zs := []) (⟨by simp, .inr ⟨bs, 0, #[], rfl, by have h1 := zg l9; have h2 := zg HLT; omega, zg HSl, Nat.le_refl _, by unfold maxLen; omega, by simp, by simp⟩⟩), fun g hg hg2 => ?_, fun g hg hg2 => ?_, fun g hg hg2 => ?_, (zg FF).ext (zg HE) (fun q hq => by omega)⟩
  ·have h1 := (zg HF1) g hg
   have h2 := (zg HF2) g hg2
   have h3 := zg z2
   omega
  ·have h1 := (zg HF1) g hg
   simp [Value.ownBlock] at hg2
   have h3 := zg HLT
   have h4 := zg l9
   omega
  ·have h1 := (zg HF2) g hg
   simp [Value.ownBlock] at hg2
   have h3 := zg HLT
   have h4 := zg l9
   omega
end Go.Proofs.YtmlkpdbfnffoaaaGreatDoor
