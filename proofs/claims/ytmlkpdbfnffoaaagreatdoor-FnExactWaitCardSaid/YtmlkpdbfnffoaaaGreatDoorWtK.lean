import Derived.Test.YtmlkpdbfnffoaaaGreatDoorWtJ
namespace Go.Proofs.YtmlkpdbfnffoaaaGreatDoor
open Go.RowKit
set_option linter.unusedSimpArgs false in
set_option maxRecDepth 10000 in
set_option maxHeartbeats 8000000 in
theorem ziK (s s' : SS) (cap : Int) (hn : Nat) (ht : Nat → ByteArray) (zs : List Int) (cd : Int) (hR : zgK s cap hn ht s' zs cd) (u h p q l d hv : Value) (w : World) (hA : zbb w s u h p q l d) (hH : zah w hv hn (fun j => .string (ht j))) (hHn : hn ≤ 1048576) (hHx : ∀ j, j < hn → (ht j).size ≤ 1048576) (hz : s.Sz) (hBy : zaj s.kh) (hT : zbf w) (hlo : 3 < w.heap.size) (hPw : zdP w) :
  Calls Tryz.prog 10 #[zaK s u h p q l d, .agg #[.int .i64 cap, hv]] w fun e w' => ∃ v0 S0 v1 S1 v2 S2, e = .returned (.tuple #[v0, v1, v2, .int .i64 cd]) ∧ (zeU s').O w' w.heap.size S0 v0 ∧ (ze3 cap hn (fun j => .string (ht j))).O w' w.heap.size S1 v1 ∧ (zcz zs).O w' w.heap.size S2 v2 ∧ (∀ g, S0 g → ¬ S1 g) ∧ (∀ g, S0 g → ¬ S2 g) ∧ (∀ g, S1 g → ¬ S2 g) ∧ Ext w w' := by
 have hcW := zi (fun W (hW : Ext w W) => zl1 s u h p q l d cap hv hn ht W (hA.ext hW) hz (hH.ext hW) hHn)
 have hcL := zi (fun (P : Nat) (hva : Option Addr) (hvc : Nat) (ua ha pa qa la da : Option Addr) (uc hc pc qc lc dc : Nat) (W0 W : World) (EW : Ext w W0) (E0 : Ext W0 W) (hP0 : W0.heap.size ≤ P) (hL : W.heap[P]? = some (.cells (lvC (ze s (.slice ua s.un uc) (.slice ha s.kh.length hc) (.slice pa s.pn pc) (.slice qa s.qn qc) (.slice la s.ln lc) (.slice da s.dn dc)) (lvH (.int .i64 cap) (.slice hva hn hvc))) 88 (0, 0))) (hO : zax W W0.heap.size s (.slice ua s.un uc) (.slice ha s.kh.length hc) (.slice pa s.pn pc) (.slice qa s.qn qc) (.slice la s.ln lc) (.slice da s.dn dc)) (hnf : ¬ zab (.slice ua s.un uc) (.slice ha s.kh.length hc) (.slice pa s.pn pc) (.slice qa s.qn qc) (.slice la s.ln lc) (.slice da s.dn dc) P) (h1 : zaD W W0.heap.size 9 (.slice hva hn hvc) hn (fun j => .string (ht j))) (h2 : ∀ g, zab (.slice ua s.un uc) (.slice ha s.kh.length hc) (.slice pa s.pn pc) (.slice qa s.qn qc) (.slice la s.ln lc) (.slice da s.dn dc) g → (Value.slice hva hn hvc).ownBlock ≠ some g) (h3 : (Value.slice hva hn hvc).ownBlock ≠ some P) => ziR P s cap hn ht hva hvc ua ha pa qa la da uc hc pc qc lc dc W0 W E0 hP0 hL hO hnf h1 h2 h3 hHn hHx hz hBy (hT.ext EW) (Nat.lt_of_lt_of_le hlo EW.size) (hPw.keep (EW.heap hlo)))
 obtain ⟨ua, uc, ha, hc, pa, pc, qa, qc, la, lc, da, dc, rfl, rfl, rfl, rfl, rfl, rfl⟩ := hA.forms
 obtain ⟨hva, hvc, rfl, _, _⟩ := hH
 have HR := zi hR
 clear hA hz hT hPw hlo hR hHx hBy
 obtain ⟨V, hV⟩ : ∃ V, V = (((w.alloc (.cells (sC s (.slice ua s.un uc) (.slice ha s.kh.length hc) (.slice pa s.pn pc) (.slice qa s.qn qc) (.slice la s.ln lc) (.slice da s.dn dc)) 40)).alloc (.cells #[.int .i64 cap, .slice hva hn hvc] 41)).alloc (.cells zS7 40)).alloc (.cells zH2 41) := ⟨_, rfl⟩
 have EV : Hid (Ext w V) := zi (by rw [hV]; exact ((((Ext.refl w).alloc _).alloc _).alloc _).alloc _)
 have ZV : Hid (V.heap.size = w.heap.size + 4) := zi (by rw [hV]; simp)
 have HB0 : Hid (V.heap[w.heap.size]? = some (.cells (sC s (.slice ua s.un uc) (.slice ha s.kh.length hc) (.slice pa s.pn pc) (.slice qa s.qn qc) (.slice la s.ln lc) (.slice da s.dn dc)) 40 (0, 0))) := zi (by rw [hV]; exact ((((Ext.refl _).alloc _).alloc _).alloc _).kept (zn w _))
 have HBH : Hid (V.heap[w.heap.size + 1]? = some (.cells #[.int .i64 cap, .slice hva hn hvc] 41 (0, 0))) := zi (by rw [hV]; refine (((Ext.refl _).alloc _).alloc _).kept ?_; have h := zn (w.alloc (.cells (sC s (.slice ua s.un uc) (.slice ha s.kh.length hc) (.slice pa s.pn pc) (.slice qa s.qn qc) (.slice la s.ln lc) (.slice da s.dn dc)) 40)) (.cells #[.int .i64 cap, .slice hva hn hvc] 41); rw [show (w.alloc (.cells (sC s (.slice ua s.un uc) (.slice ha s.kh.length hc) (.slice pa s.pn pc) (.slice qa s.qn qc) (.slice la s.ln lc) (.slice da s.dn dc)) 40)).heap.size = w.heap.size + 1 by simp] at h; exact h)
 have HB1 : Hid (V.heap[w.heap.size + 2]? = some (.cells zS7 40 (0, 0))) := zi (by rw [hV]; refine ((Ext.refl _).alloc _).kept ?_; have h := zn ((w.alloc (.cells (sC s (.slice ua s.un uc) (.slice ha s.kh.length hc) (.slice pa s.pn pc) (.slice qa s.qn qc) (.slice la s.ln lc) (.slice da s.dn dc)) 40)).alloc (.cells #[.int .i64 cap, .slice hva hn hvc] 41)) (.cells zS7 40); rw [show ((w.alloc (.cells (sC s (.slice ua s.un uc) (.slice ha s.kh.length hc) (.slice pa s.pn pc) (.slice qa s.qn qc) (.slice la s.ln lc) (.slice da s.dn dc)) 40)).alloc (.cells #[.int .i64 cap, .slice hva hn hvc] 41)).heap.size = w.heap.size + 2 by simp] at h; exact h)
 have HB2 : Hid (V.heap[w.heap.size + 3]? = some (.cells zH2 41 (0, 0))) := zi (by rw [hV]; have h := zn (((w.alloc (.cells (sC s (.slice ua s.un uc) (.slice ha s.kh.length hc) (.slice pa s.pn pc) (.slice qa s.qn qc) (.slice la s.ln lc) (.slice da s.dn dc)) 40)).alloc (.cells #[.int .i64 cap, .slice hva hn hvc] 41)).alloc (.cells zS7 40)) (.cells zH2 41); rw [show (((w.alloc (.cells (sC s (.slice ua s.un uc) (.slice ha s.kh.length hc) (.slice pa s.pn pc) (.slice qa s.qn qc) (.slice la s.ln lc) (.slice da s.dn dc)) 40)).alloc (.cells #[.int .i64 cap, .slice hva hn hvc] 41)).alloc (.cells zS7 40)).heap.size = w.heap.size + 3 by simp] at h; exact h)
 have HV := zi hV
 clear hV
 unfold zaK at *
 go_enter Tryz.func10, Tryz.ntmps10
 go_upto_region 1 with fail
 rw [← zg HV]
 clear HV
 go_wp2_with (first
  | (refine zm rfl 40 _ rfl (w.heap.size) rfl _ _ _ _ (zg HB0) Tryz.underlying40 rfl zap ?_)
  | (refine zm rfl 41 _ rfl (w.heap.size + 1) rfl _ _ _ _ (zg HBH) Tryz.underlying41 rfl zaB ?_))
 refine ((zg hcW) _ (zg EV)).mono ?_
 rintro e w1 ⟨P, u1, h1, p1, q1, l1, d1, va, vc, rfl, hL, hO, hO1, hO2, hP, hnf, hO3, F1⟩
 obtain ⟨u1a, u1c, h1a, h1c, p1a, p1c, q1a, q1c, l1a, l1c, d1a, d1c, rfl, rfl, rfl, rfl, rfl, rfl⟩ := hO.reads.forms
 have hcl := zi ((zg hcL) P va vc u1a h1a p1a q1a l1a d1a u1c h1c p1c q1c l1c d1c _ w1 (zg EV) F1 hP hL hO hnf hO1 hO2 hO3)
 have HPP := zi hP
 have E1 := zi ((zg EV).trans F1)
 replace HB1 := F1.hk HB1
 replace HB2 := F1.hk HB2
 have Z1 := zi F1.size
 clear hcL hcW hL hO hnf hP F1 HB0 HBH hO1 hO2 hO3
 go_wp2_with fail
 refine (zg hcl).mono ?_
 rintro e w2 ⟨v2, zs2, s2, cd2, u2, h2, p2, q2, l2, d2, hv2, r, rfl, hrel, ho, hS2, hH2, hP2, hap, hap2, F2⟩
 obtain ⟨rfl, rfl, rfl⟩ := zlY hrel (zg HR)
 obtain ⟨u3a, u3c, h3a, h3c, p3a, p3c, q3a, q3c, l3a, l3c, d3a, d3c, rfl, rfl, rfl, rfl, rfl, rfl⟩ := hS2.reads.forms
 obtain ⟨a2, c2, rfl⟩ := zaE ho
 obtain ⟨ha2, hc2, rfl⟩ := hH2.slice
 have B1w := zi (F2.kept (zg HB1) (by have h2 := zg ZV; omega))
 have B2w := zi (F2.kept (zg HB2) (by have h2 := zg ZV; omega))
 have HP2 := zi hP2
 have HO2 := zi ho
 have HS2 := zi hS2
 have HH2 := zi hH2
 have HF2 := zi F2
 have HAP := zi (And.intro hap hap2)
 have HPV : Hid (w.heap.size + 4 ≤ P) := zi (by have h1 := zg HPP; have h2 := zg ZV; omega)
 clear hP2 ho F2 hS2 hap hap2 hH2 hrel HR
 go_upto_region 3 with fail
 refine wp_region_held_drew (S := fun W => W.heap[P]? = some (.cells (lvC (ze s' (.slice u3a s'.un u3c) (.slice h3a s'.kh.length h3c) (.slice p3a s'.pn p3c) (.slice q3a s'.qn q3c) (.slice l3a s'.ln l3c) (.slice d3a s'.dn d3c)) (.int .i64 cap :: .slice ha2 hn hc2 :: r)) 88 (0, 0))) (by kernel_rfl) (zg HP2) (fun hHeld => ?_)
 refine wpAnyH_take (i := 0) (v := .pointer (some ⟨P, 0, none⟩)) rfl (by kernel_rfl) (by kernel_rfl) (by kernel_rfl) (fun _ _ _ h => h) (Or.inl ⟨by rfl, ?_⟩) (by assumption) ?_
 ·intro w' hSw; go_simp <;> with_reducible rfl
 simp only [Act.put, q9]
 refine wpAnyH_take (i := 1) (v := .pointer (some ⟨P, 0, none⟩)) rfl (by kernel_rfl) (by kernel_rfl) (by kernel_rfl) (fun _ _ _ h => h) (Or.inl ⟨by rfl, ?_⟩) (by assumption) ?_
 ·intro w' hSw; go_simp <;> with_reducible rfl
 simp only [Act.put, q9]
 refine wpAnyH_take (i := 2) (v := .pointer (some ⟨P, 0, none⟩)) rfl (by kernel_rfl) (by kernel_rfl) (by kernel_rfl) (fun _ _ _ h => h) (Or.inl ⟨by rfl, ?_⟩) (by assumption) ?_
 ·intro w' hSw; go_simp <;> with_reducible rfl
 simp only [Act.put, q9]
 refine tk 3 (.agg (ze s' (.slice u3a s'.un u3c) (.slice h3a s'.kh.length h3c) (.slice p3a s'.pn p3c) (.slice q3a s'.qn q3c) (.slice l3a s'.ln l3c) (.slice d3a s'.dn d3c))) rfl (by kernel_rfl) (fun _ _ _ h => h) (by rfl) ?_ (by assumption) ?_
 ·intro w' hSw; exact zaT 40 _ rfl P 0 rfl _ _ (ze s' (.slice u3a s'.un u3c) (.slice h3a s'.kh.length h3c) (.slice p3a s'.pn p3c) (.slice q3a s'.qn q3c) (.slice l3a s'.ln l3c) (.slice d3a s'.dn d3c)) _ _ hSw zeV Tryz.underlying40 rfl zap
 simp only [Act.put, q9]
 refine wpAnyH_take (i := 4) (v := .pointer (some ⟨P, 0, none⟩)) rfl (by kernel_rfl) (by kernel_rfl) (by kernel_rfl) (fun _ _ _ h => h) (Or.inl ⟨by rfl, ?_⟩) (by assumption) ?_
 ·intro w' hSw; go_simp <;> with_reducible rfl
 simp only [Act.put, q9]
 refine wpAnyH_take (i := 5) (v := .pointer (some ⟨P, 0, none⟩)) rfl (by kernel_rfl) (by kernel_rfl) (by kernel_rfl) (fun _ _ _ h => h) (Or.inl ⟨by rfl, ?_⟩) (by assumption) ?_
 ·intro w' hSw; go_simp <;> with_reducible rfl
 simp only [Act.put, q9]
 refine wpAnyH_take (i := 6) (v := .pointer (some ⟨P, 17, none⟩)) rfl (by kernel_rfl) (by kernel_rfl) (by kernel_rfl) (fun _ _ _ h => h) (Or.inl ⟨by rfl, ?_⟩) (by assumption) ?_
 ·intro w' hSw; go_simp <;> with_reducible rfl
 simp only [Act.put, q9]
 refine tk 7 (.agg #[.int .i64 cap, .slice ha2 hn hc2]) rfl (by kernel_rfl) (fun _ _ _ h => h) (by rfl) ?_ (by assumption) ?_
 ·intro w' hSw; exact zaT 41 _ rfl P 17 rfl _ _ #[.int .i64 cap, .slice ha2 hn hc2] _ _ hSw (lvH_his rfl) Tryz.underlying41 rfl zaB
 simp only [Act.put, q9]
 refine wpAnyH_take (i := 8) (v := .slice a2 zs.length c2) rfl (by kernel_rfl) (by kernel_rfl) (by kernel_rfl) (fun _ _ _ h => h) (Or.inl ⟨by rfl, ?_⟩) (by assumption) ?_
 ·intro w' hSw; go_simp <;> with_reducible rfl
 simp only [Act.put, q9]
 refine wpAnyH_take (i := 9) (v := .int .i64 cd) rfl (by kernel_rfl) (by kernel_rfl) (by kernel_rfl) (fun _ _ _ h => h) (Or.inl ⟨by rfl, ?_⟩) (by assumption) ?_
 ·intro w' hSw; go_simp <;> with_reducible rfl
 simp only [Act.put, q9]
 have G := zi ((Ext.refl w2).drew)
 generalize w2.drew = Y0 at *
 refine rdy 10 (by kernel_rfl) rfl (fun K hK => ?_)
 refine zad 40 _ _ rfl rfl (w.heap.size + 2) rfl _ _ (ze s' (.slice u3a s'.un u3c) (.slice h3a s'.kh.length h3c) (.slice p3a s'.pn p3c) (.slice q3a s'.qn q3c) (.slice l3a s'.ln l3c) (.slice d3a s'.dn d3c)) rfl ((zg G).kept (zg B1w)) zap rfl (by simp [Value.oneCell', ze]) ?_
 intro X hx9 hf9
 refine hK.out _ _ (hf9.kept ((zg G).kept (zg HP2)) (fun e => by have := zg HPV; omega)) (fun hHeld => ?_)
 clear hK K
 refine rdy 11 (by kernel_rfl) rfl (fun K hK => ?_)
 refine zad 41 _ _ rfl rfl (w.heap.size + 3) rfl _ _ #[.int .i64 cap, .slice ha2 hn hc2] rfl (hf9.kept ((zg G).kept (zg B2w)) (by omega)) zaB rfl (by simp [Value.oneCell']) ?_
 intro Y hy9 hg9
 have HX := zi (hg9.kept hx9 (by omega))
 have HY := zi hy9
 have FX : Hid (Fr (fun q => q = w.heap.size + 2 ∨ q = w.heap.size + 3) w2 Y) := zi (((Fr.of_ext (zg G)).tr (hf9.mono (fun q hq => .inl hq))).tr (hg9.mono (fun q hq => .inr hq)))
 refine hK.out _ _ ((zg FX).kept (zg HP2) (fun e => by have := zg HPV; omega)) (fun hHeld => ?_)
 clear hK K hx9 hf9 hy9 hg9
 refine wpAnyH_take (i := 12) (v := .slice a2 zs.length c2) rfl (by kernel_rfl) (by kernel_rfl) (by kernel_rfl) (fun _ _ _ h => h) (Or.inl ⟨by rfl, ?_⟩) (by assumption) ?_
 ·intro w' hSw; go_simp <;> with_reducible rfl
 simp only [Act.put, q9]
 refine wpAnyH_take (i := 13) (v := .int .i64 cd) rfl (by kernel_rfl) (by kernel_rfl) (by kernel_rfl) (fun _ _ _ h => h) (Or.inl ⟨by rfl, ?_⟩) (by assumption) ?_
 ·intro w' hSw; go_simp <;> with_reducible rfl
 simp only [Act.put, q9]
 refine wpAnyH_done (by kernel_rfl) ?_ _
 go_wp2
 have vS := fun i => cell_of_row Y (w.heap.size + 2) i _ _ _ (zg HX)
 have vH := fun i => cell_of_row Y (w.heap.size + 3) i _ _ _ (zg HY)
 have zV := zg ZV
 have z1 := zg Z1
 have fS := (zg HS2).fr (zg FX) (fun g hg e9 => by have := ((zg HS2).foot hg).1; omega)
 have fH := (zg HH2).fr (zg FX) (fun g hg e9 => by have := ((zg HH2).lt g hg).1; omega)
 have fO := (zg FX).owns (zg HO2) (fun g hg e9 => by have := ((zg HO2).lt g hg).1; omega)
 refine bodyPost_ret (v := .tuple #[zaK s' (.slice u3a s'.un u3c) (.slice h3a s'.kh.length h3c) (.slice p3a s'.pn p3c) (.slice q3a s'.qn q3c) (.slice l3a s'.ln l3c) (.slice d3a s'.dn d3c), .agg #[.int .i64 cap, .slice ha2 hn hc2], .slice a2 zs.length c2, .int .i64 cd]) (by simp [results, Tryz.results10, go_sem, zaK, ze, vS, vH]) rfl ⟨_, _, _, _, _, _, rfl, ze8 (fS.mono (by omega)), ze9 (fH.mono (by omega)), zev (zas fO (by omega)), fun g hg hg2 => (zg HAP).2 g hg hg2, fun g hg hg2 => (zg HAP).1 g hg hg2, fun g hg hg2 => ?_, (zg FX).ext ((zg HF2).ext (zg E1) (fun q hq => by omega)) (fun q hq => by omega)⟩
 obtain ⟨ys, h5, _⟩ := fH
 exact zaW h5 fO (by decide) hg hg2
end Go.Proofs.YtmlkpdbfnffoaaaGreatDoor
