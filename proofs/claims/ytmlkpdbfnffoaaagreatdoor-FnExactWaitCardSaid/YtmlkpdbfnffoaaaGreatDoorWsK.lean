import Derived.Test.YtmlkpdbfnffoaaaGreatDoorWsKb
namespace Go.Proofs.YtmlkpdbfnffoaaaGreatDoor
open Go.RowKit
set_option linter.unusedSimpArgs false in
set_option maxRecDepth 10000 in
set_option maxHeartbeats 8000000 in
theorem zj9 (b : Nat) (s : SS) (u h p q l d : Value) (cap : Int) (va : Option Addr) (hn vc : Nat) (k : List Int × Int) (ra : Option Addr) (rc : Nat) (w : World) (hO : zax w b s u h p q l d) (hb : b ≤ w.heap.size) (hk : Few k.2) (hr : zag w .i32 (.slice ra k.1.length rc) k.1) (iR : zbv k.1) (hr1 : k.1.length ≤ 1)
  (hln : s.LnP) (hp1 : zbT (baL s.pr)) (hp2 : (zp (baL s.pr)).length ≤ 40) (hs : zbl s.cols s.rows = true) (hd : ¬ (s.ed k).d = 2) :
  Calls Tryz.prog 53 #[zaK s u h p q l d, .agg #[.int .i64 cap, .slice va hn vc], .agg #[.int .i64 k.2, .slice ra k.1.length rc]] w fun e w' => ∃ u' v, e = .returned (.tuple #[zaK (s.ln4 (s.ed k)) u' h p q l d, .agg #[.int .i64 cap, .slice va hn vc], v]) ∧ zax w' b (s.ln4 (s.ed k)) u' h p q l d ∧ (∀ g, u'.ownBlock = some g → w.heap.size + 5 ≤ g) ∧ RB w' w.heap.size v (s.kyO k) ∧ Ext w w' := by
 obtain ⟨ua, uc, ha, hc, pa, pc, qa, qc, la, lc, da, dc, rfl, rfl, rfl, rfl, rfl, rfl⟩ := hO.reads.forms
 have hsz := hln.sz
 have hps := zba hp1
 rw [zar] at hps
 have hfew := s.ed_few k hk
 have hed := hln.ed k hk
 obtain ⟨o, ho⟩ : ∃ o, o = s.ed k := ⟨_, rfl⟩
 have hcB := zi (fun W (hW : Ext w W) => zc1 s (.slice ua s.un uc) (.slice ha s.kh.length hc) (.slice pa s.pn pc) (.slice qa s.qn qc) (.slice la s.ln lc) (.slice da s.dn dc) W (hO.reads.ext hW) (by omega) (by omega) (by omega) hs)
 have hcE := zi (fun W (hW : Ext w W) => zff s.la s.lb s.lc (.slice ua s.un uc) (unL s.ut s.uh s.un) ra k.1.length rc W (by exact (zi0 hO.reads.un).ext hW) (by omega) (by omega) (by omega) (fun j hj => by rw [zca] at hj; rw [zdQ (zcP s.ut s.uh hj), zd1 (zcP s.ut s.uh hj)]; exact ⟨Nat.le_trans (hsz.2.2.2.2 j hj).1 (by omega), Nat.le_trans (hsz.2.2.2.2 j hj).2 (by omega)⟩) k.2 hk k.1 (hr.ext hW) iR hr1 hln.un)
 rw [show edF s.la s.lb s.lc (unL s.ut s.uh s.un) k.2 k.1 = o from ho.symm] at hcE
 have hcB2 := zi (fun W u2 (hA : zbb W (s.ln4 o) u2 (.slice ha s.kh.length hc) (.slice pa s.pn pc) (.slice qa s.qn qc) (.slice la s.ln lc) (.slice da s.dn dc)) => zc1 (s.ln4 o) u2 (.slice ha s.kh.length hc) (.slice pa s.pn pc) (.slice qa s.qn qc) (.slice la s.ln lc) (.slice da s.dn dc) W hA (show s.pr.size ≤ _ by omega) (by rw [ho]; have := hed.sz; omega) (by rw [ho]; have := hed.sz; omega) hs)
 have h100 := (s.blk_lt hs).2
 have h101 := ((s.ln4 o).blk_lt hs).2
 have hsl := (s.ln4 o).slen_small hp1 hp2 (by rw [ho]; exact hed) hs
 have hcR := zi (fun W v1 v2 (h1 : zah W v1 s.blk.n (fun j => .string (s.blk.tx j))) (h2 : zah W v2 (s.ln4 o).blk.n (fun j => .string ((s.ln4 o).blk.tx j))) => zdR v1 v2 (s.blk.R : Int) s.blk.C ((s.ln4 o).blk.R : Int) (s.ln4 o).blk.C s.blk.n (s.ln4 o).blk.n s.blk.tx (s.ln4 o).blk.tx (s.sm (s.ln4 o)) (s.sm_iff (s.ln4 o)) W h1 h2 (by omega) (by omega) (by omega))
 obtain ⟨L, hL⟩ : ∃ L, L = s.rd (s.ln4 o) := ⟨_, rfl⟩
 rw [show za8 s.blk.n (s.blk.R : Int) s.blk.C (s.ln4 o).blk.n (s.ln4 o).blk.tx ((s.ln4 o).blk.R : Int) (s.ln4 o).blk.C (s.sm (s.ln4 o)) = L from hL.symm] at hcR
 have HKO : Hid (s.kyO k = if o.d = 2 then [7] else L) := zi (by unfold SS.kyO; rw [← ho, hL])
 have HF : Hid (o.d = 0 ∨ o.d = 1 ∨ o.d = 2) := zi (by rw [← ho] at hfew; rcases hfew with h | h | h; exact .inl h; exact .inr (.inl h); exact .inr (.inr h.1))
 rw [← ho] at hd ⊢
 have HHD := zi hd
 have HOW := zi hO
 have HBW := zi hb
 clear hL hd ho hfew hed hsl h100 h101 hps hsz hr iR hr1 hO hb hln hp1 hp2 hs hk
 obtain ⟨V, hV⟩ : ∃ V, V = (((((w.alloc (.cells (ze s (.slice ua s.un uc) (.slice ha s.kh.length hc) (.slice pa s.pn pc) (.slice qa s.qn qc) (.slice la s.ln lc) (.slice da s.dn dc)) 40)).alloc (.cells #[.int .i64 cap, .slice va hn vc] 41)).alloc (.cells #[.int .i64 k.2, .slice ra k.1.length rc] 102)).alloc (.cells zSS 40)).alloc (.cells zH2 41)) := ⟨_, rfl⟩
 have E0 : Ext w V := by rw [hV]; exact (((((Ext.refl w).alloc _).alloc _).alloc _).alloc _).alloc _
 have zV : Hid (V.heap.size = w.heap.size + 5) := zi (by rw [hV]; simp)
 have HB0 : Hid (V.heap[w.heap.size]? = some (.cells (ze s (.slice ua s.un uc) (.slice ha s.kh.length hc) (.slice pa s.pn pc) (.slice qa s.qn qc) (.slice la s.ln lc) (.slice da s.dn dc)) 40 (0, 0))) := zi (by rw [hV]; exact (((((Ext.refl _).alloc _).alloc _).alloc _).alloc _).kept (zn w _))
 have HB1 : Hid (V.heap[w.heap.size + 1]? = some (.cells #[.int .i64 cap, .slice va hn vc] 41 (0, 0))) := zi (by rw [hV]; refine ((((Ext.refl _).alloc _).alloc _).alloc _).kept ?_; have h := zn (w.alloc (.cells (ze s (.slice ua s.un uc) (.slice ha s.kh.length hc) (.slice pa s.pn pc) (.slice qa s.qn qc) (.slice la s.ln lc) (.slice da s.dn dc)) 40)) (.cells #[.int .i64 cap, .slice va hn vc] 41); rw [show (w.alloc (.cells (ze s (.slice ua s.un uc) (.slice ha s.kh.length hc) (.slice pa s.pn pc) (.slice qa s.qn qc) (.slice la s.ln lc) (.slice da s.dn dc)) 40)).heap.size = w.heap.size + 1 by simp] at h; exact h)
 have HBK : Hid (V.heap[w.heap.size + 2]? = some (.cells #[.int .i64 k.2, .slice ra k.1.length rc] 102 (0, 0))) := zi (by rw [hV]; refine (((Ext.refl _).alloc _).alloc _).kept ?_; have h := zn ((w.alloc (.cells (ze s (.slice ua s.un uc) (.slice ha s.kh.length hc) (.slice pa s.pn pc) (.slice qa s.qn qc) (.slice la s.ln lc) (.slice da s.dn dc)) 40)).alloc (.cells #[.int .i64 cap, .slice va hn vc] 41)) (.cells #[.int .i64 k.2, .slice ra k.1.length rc] 102); rw [show ((w.alloc (.cells (ze s (.slice ua s.un uc) (.slice ha s.kh.length hc) (.slice pa s.pn pc) (.slice qa s.qn qc) (.slice la s.ln lc) (.slice da s.dn dc)) 40)).alloc (.cells #[.int .i64 cap, .slice va hn vc] 41)).heap.size = w.heap.size + 2 by simp] at h; exact h)
 have HZS : Hid (V.heap[w.heap.size + 3]? = some (.cells zSS 40 (0, 0))) := zi (by rw [hV]; refine ((Ext.refl _).alloc _).kept ?_; have h := zn (((w.alloc (.cells (ze s (.slice ua s.un uc) (.slice ha s.kh.length hc) (.slice pa s.pn pc) (.slice qa s.qn qc) (.slice la s.ln lc) (.slice da s.dn dc)) 40)).alloc (.cells #[.int .i64 cap, .slice va hn vc] 41)).alloc (.cells #[.int .i64 k.2, .slice ra k.1.length rc] 102)) (.cells zSS 40); rw [show (((w.alloc (.cells (ze s (.slice ua s.un uc) (.slice ha s.kh.length hc) (.slice pa s.pn pc) (.slice qa s.qn qc) (.slice la s.ln lc) (.slice da s.dn dc)) 40)).alloc (.cells #[.int .i64 cap, .slice va hn vc] 41)).alloc (.cells #[.int .i64 k.2, .slice ra k.1.length rc] 102)).heap.size = w.heap.size + 3 by simp] at h; exact h)
 have HZH : Hid (V.heap[w.heap.size + 4]? = some (.cells zH2 41 (0, 0))) := zi (by rw [hV]; have h := zn ((((w.alloc (.cells (ze s (.slice ua s.un uc) (.slice ha s.kh.length hc) (.slice pa s.pn pc) (.slice qa s.qn qc) (.slice la s.ln lc) (.slice da s.dn dc)) 40)).alloc (.cells #[.int .i64 cap, .slice va hn vc] 41)).alloc (.cells #[.int .i64 k.2, .slice ra k.1.length rc] 102)).alloc (.cells zSS 40)) (.cells zH2 41); rw [show ((((w.alloc (.cells (ze s (.slice ua s.un uc) (.slice ha s.kh.length hc) (.slice pa s.pn pc) (.slice qa s.qn qc) (.slice la s.ln lc) (.slice da s.dn dc)) 40)).alloc (.cells #[.int .i64 cap, .slice va hn vc] 41)).alloc (.cells #[.int .i64 k.2, .slice ra k.1.length rc] 102)).alloc (.cells zSS 40)).heap.size = w.heap.size + 4 by simp] at h; exact h)
 have HV := zi hV
 have HE := zi E0
 clear hV E0
 simp only [zb3] at hcB hcB2
 rw [zb3]
 go_enter Tryz.func53, Tryz.ntmps53
 go_upto_region 1 with fail
 rw [← zg HV]
 clear HV
 go_wp2_with (refine zm rfl 40 _ rfl (w.heap.size) rfl _ _ _ _ (zg HB0) Tryz.underlying40 rfl zap ?_)
 refine ((zg hcB) _ (zg HE)).mono ?_
 rintro e w1 ⟨v1, rfl, hv1, E1⟩
 obtain ⟨b1a, b1c, rfl⟩ := hv1.slice
 have HV1 := zi (hv1.mono (show w.heap.size + 5 ≤ V.heap.size from Nat.le_of_eq (zg zV).symm))
 have z1 : Hid (w.heap.size + 5 ≤ w1.heap.size) := zi (by have := E1.size; have := zg zV; omega)
 replace HE := Hid.ht HE E1
 replace HB0 := E1.hk HB0
 replace HB1 := E1.hk HB1
 replace HBK := E1.hk HBK
 replace HZS := E1.hk HZS
 replace HZH := E1.hk HZH
 clear hv1 E1 hcB zV
 go_wp2_with (first
  | (refine zy rfl 86 _ _ rfl rfl (w1.heap.size) rfl _ _ #[.slice b1a s.blk.n b1c, .int .i64 (s.blk.R : Int), .int .i64 s.blk.C] rfl (zn w1 _) zii rfl (by simp [Value.oneCell']) ?_; intro U hB hU; have HU1 := zi (hU.ext ((Ext.refl w1).alloc _) (fun q hq => by omega)); have HBB := zi hB; clear hB hU)
  | (refine zbc rfl 37 _ rfl (w.heap.size) 3 rfl _ _ #[.string s.la, .string s.lb, .string s.lc, .slice ua s.un uc] _ _ ((zg HU1).kept (zg HB0)) zhZ Tryz.underlying37 rfl zc0 ?_)
  | (refine zm rfl 102 _ rfl (w.heap.size + 2) rfl _ _ _ _ ((zg HU1).kept (zg HBK)) Tryz.underlying102 rfl zkX ?_))
 refine ((zg hcE) _ ((zg HE).trans (zg HU1))).mono ?_
 rintro e w2 ⟨⟨u2, rfl, o2⟩, E2⟩
 obtain ⟨u2a, u2c, rfl, _⟩ := id o2.reads
 have EU := (zg HU1).trans E2
 have z2 : Hid (w1.heap.size < w2.heap.size ∧ U.heap.size ≤ w2.heap.size) := zi ⟨zt (E2.kept (zg HBB)), E2.size⟩
 have zU : Hid (w1.heap.size ≤ U.heap.size) := zi (zg HU1).size
 have HV2 := zi ((zg HV1).ext EU)
 have HBB2 := E2.hk HBB
 have HO2 := zi o2
 replace HE := Hid.ht HE EU
 replace HB0 := EU.hk HB0
 replace HB1 := EU.hk HB1
 replace HZS := EU.hk HZS
 replace HZH := EU.hk HZH
 clear o2 E2 EU hcE HBK HV1 HBB HU1
 have HST := zi (ze7 (s := s) (u := .slice ua s.un uc) (u' := .slice u2a o.un.length u2c) (h := .slice ha s.kh.length hc) (p := .slice pa s.pn pc) (q := .slice qa s.qn qc) (l := .slice la s.ln lc) (d := .slice da s.dn dc) o)
 have n3 : ¬ o.d = 3 := by rcases zg HF with h | h | h <;> omega
 have n4 : ¬ o.d = 4 := by rcases zg HF with h | h | h <;> omega
 have n5 : ¬ o.d = 5 := by rcases zg HF with h | h | h <;> omega
 have n6 : ¬ o.d = 6 := by rcases zg HF with h | h | h <;> omega
 have n7 : ¬ o.d = 7 := by rcases zg HF with h | h | h <;> omega
 have n8 : ¬ o.d = 8 := by rcases zg HF with h | h | h <;> omega
 have hd := zg HHD
 have m2 : (o.d == 2) = false := by simpa using hd
 have m8 : (o.d == 8) = false := by simpa using n8
 have m9 : (o.d != 2) = true := by simpa using hd
 have m10 : (o.d != 8) = true := by simpa using n8
 go_upto_region 15 with (first
  | (refine zy rfl 37 _ _ rfl rfl (w2.heap.size) rfl _ _ #[.string o.a, .string o.b, .string o.c, .slice u2a o.un.length u2c] rfl (zn w2 _) zc0 rfl (by simp [Value.oneCell']) ?_; intro U hB hU; have HU1 := zi (hU.ext ((Ext.refl w2).alloc _) (fun q hq => by omega)); have HBL := zi hB; clear hB hU)
  | (refine zm rfl 37 _ rfl (w2.heap.size) rfl _ _ _ _ (zg HBL) Tryz.underlying37 rfl zc0 ?_)
  | (refine zaO rfl 37 _ _ rfl rfl (w.heap.size) 3 rfl 40 _ #[.string o.a, .string o.b, .string o.c, .slice u2a o.un.length u2c] _ rfl ((zg HU1).kept (zg HB0)) zc0 (by show 3 + 4 ≤ _; simp [ze]) (by simp [Value.oneCell']) (zg HST) ?_; intro Z hy hf; have HBZ := zi hy; have HFZ := zi hf; clear hy hf))
 have HEZ := zi ((zg HFZ).ext ((zg HE).trans (zg HU1)) (fun q hq => by omega))
 have HLT : Hid (w.heap.size + 5 ≤ w1.heap.size ∧ w1.heap.size ≤ Z.heap.size) := zi (by have h1 := zg z1; have h2 := (zg HFZ).size; have h3 := (zg HU1).size; have h4 := zg z2; omega)
 have HU2 : Hid (∀ g, (Value.slice u2a o.un.length u2c).ownBlock = some g → w1.heap.size ≤ g) := zi (fun g hg => by have h1 := ((zg HO2).lt g hg).1; have h2 := zg zU; omega)
 have HFT : Hid (∀ g, zab (.slice u2a o.un.length u2c) (.slice ha s.kh.length hc) (.slice pa s.pn pc) (.slice qa s.qn qc) (.slice la s.ln lc) (.slice da s.dn dc) g → g < w.heap.size ∨ w1.heap.size ≤ g) := zi (fun g hg => by
  have f := fun g hg => ((zg HOW).foot (g := g) hg).2
  rcases hg with hg | hg | hg | hg | hg | hg
  ·exact .inr ((zg HU2) g hg)
  ·exact .inl (f g (.inr (.inl hg)))
  ·exact .inl (f g (.inr (.inr (.inl hg))))
  ·exact .inl (f g (.inr (.inr (.inr (.inl hg)))))
  ·exact .inl (f g (.inr (.inr (.inr (.inr (.inl hg))))))
  ·exact .inl (f g (.inr (.inr (.inr (.inr (.inr hg)))))))
 have HOZ := zi (((zg HOW).line ((zg HE).trans (zg HU1)) o (((zg HO2).ext (zg HU1)).mono (by have h1 := zg z1; have h2 := zg zU; omega)) (zg HBW)).fr (zg HFZ) (fun g hg e => by have h1 := (zg HFT) g hg; have h2 := zg HLT; omega))
 have HV3 := zi (((zg HV2).ext (zg HU1)).fr (zg HFZ) (fun g hg e => by have h1 := ((zg HV2).lt g hg).1; have h2 := zg z1; omega))
 have HB1Z := zi ((zg HFZ).kept ((zg HU1).kept (zg HB1)) (by omega))
 have HBBZ := zi ((zg HFZ).kept ((zg HU1).kept (zg HBB2)) (by have h1 := zg z1; omega))
 replace HZS := zi ((zg HFZ).kept ((zg HU1).kept (zg HZS)) (by omega))
 replace HZH := zi ((zg HFZ).kept ((zg HU1).kept (zg HZH)) (by omega))
 clear m2 m8 m9 m10 hd HE HU1 HBL HB0 HB1 HBB2 HV2 HO2 HFZ HST HOW HBW n3 n4 n5 n6 n7 n8 z1 z2 zU HF
 go_upto_region 17 with fail
 refine wp_region_held_drew (S := fun W => W.heap[w.heap.size]? = some (.cells (ze (s.ln4 o) (.slice u2a o.un.length u2c) (.slice ha s.kh.length hc) (.slice pa s.pn pc) (.slice qa s.qn qc) (.slice la s.ln lc) (.slice da s.dn dc)) 40 (0, 0)) ∧ W.heap[w.heap.size + 1]? = some (.cells #[.int .i64 cap, .slice va hn vc] 41 (0, 0)) ∧ W.heap[w1.heap.size]? = some (.cells #[.slice b1a s.blk.n b1c, .int .i64 (s.blk.R : Int), .int .i64 s.blk.C] 86 (0, 0))) (by kernel_rfl) ⟨zg HBZ, zg HB1Z, zg HBBZ⟩ (fun hHeld => ?_)
 refine tk 0 (.agg (ze (s.ln4 o) (.slice u2a o.un.length u2c) (.slice ha s.kh.length hc) (.slice pa s.pn pc) (.slice qa s.qn qc) (.slice la s.ln lc) (.slice da s.dn dc))) rfl (by kernel_rfl) (fun _ _ _ h => h) (by rfl) ?_ (by assumption) ?_
 ·intro w' hSw; exact zae 40 _ rfl (w.heap.size) rfl _ _ _ _ hSw.1 Tryz.underlying40 rfl zap
 simp only [Act.put, q9]
 refine tk 1 (.agg #[.int .i64 cap, .slice va hn vc]) rfl (by kernel_rfl) (fun _ _ _ h => h) (by rfl) ?_ (by assumption) ?_
 ·intro w' hSw; exact zae 41 _ rfl (w.heap.size + 1) rfl _ _ _ _ hSw.2.1 Tryz.underlying41 rfl zaB
 simp only [Act.put, q9]
 refine tk 2 (.agg #[.slice b1a s.blk.n b1c, .int .i64 (s.blk.R : Int), .int .i64 s.blk.C]) rfl (by kernel_rfl) (fun _ _ _ h => h) (by rfl) ?_ (by assumption) ?_
 ·intro w' hSw; exact zae 86 _ rfl (w1.heap.size) rfl _ _ _ _ hSw.2.2 Tryz.underlying86 rfl zii
 simp only [Act.put, q9]
 refine tk 3 (.agg (ze (s.ln4 o) (.slice u2a o.un.length u2c) (.slice ha s.kh.length hc) (.slice pa s.pn pc) (.slice qa s.qn qc) (.slice la s.ln lc) (.slice da s.dn dc))) rfl (by kernel_rfl) (fun _ _ _ h => h) (by rfl) ?_ (by assumption) ?_
 ·intro w' hSw; exact zae 40 _ rfl (w.heap.size) rfl _ _ _ _ hSw.1 Tryz.underlying40 rfl zap
 simp only [Act.put, q9]
 have G := zi ((Ext.refl Z).drew)
 generalize Z.drew = Y0 at *
 refine rdy 4 (by kernel_rfl) rfl (fun K hK => ?_)
 go_simp
 refine ((zg hcB2) _ _ ((zg HOZ).reads.ext (zg G))).mono ?_
 rintro e w5 ⟨v5, rfl, hv5, E5⟩
 obtain ⟨b2a, b2c, rfl⟩ := hv5.slice
 have G5 := Hid.ht G E5
 have HV5 := zi hv5.reads
 clear hv5 E5
 clear hHeld
 refine hK.out _ _ ⟨(zg G5).kept (zg HBZ), (zg G5).kept (zg HB1Z), (zg G5).kept (zg HBBZ)⟩ (fun hHeld => ?_)
 clear hK K
 refine rdy 5 (by kernel_rfl) rfl (fun K hK => ?_)
 go_simp
 refine ((zg hcR) _ _ _ ((zg HV3).reads.ext (zg G5)) (zg HV5)).mono ?_
 rintro e w6 ⟨u6, rfl, hu6, E6⟩
 obtain ⟨u6a, u6c, e6, _⟩ := id hu6.1
 subst e6
 have G6 := Hid.ht G5 E6
 have HR6 := zi hu6
 have z5 : Hid (Z.heap.size ≤ w5.heap.size) := zi (zg G5).size
 clear hu6 E6
 clear hHeld
 refine hK.out _ _ ⟨(zg G6).kept (zg HBZ), (zg G6).kept (zg HB1Z), (zg G6).kept (zg HBBZ)⟩ (fun hHeld => ?_)
 clear hK K
 refine rdy 6 (by kernel_rfl) rfl (fun K hK => ?_)
 refine zad 40 _ _ rfl rfl (w.heap.size + 3) rfl _ _ (ze (s.ln4 o) (.slice u2a o.un.length u2c) (.slice ha s.kh.length hc) (.slice pa s.pn pc) (.slice qa s.qn qc) (.slice la s.ln lc) (.slice da s.dn dc)) rfl ((zg G6).kept (zg HZS)) zap rfl (by simp [Value.oneCell', ze]) ?_
 intro Y7 hb9 hf9
 have FF7 : Hid (Fr (fun q => q = w.heap.size + 3 ∨ q = w.heap.size + 4) w6 Y7) := zi (hf9.mono (fun q hq => by omega))
 have FF6 : Hid (Fr (fun q => q = w.heap.size + 3 ∨ q = w.heap.size + 4) Z w6) := zi (Fr.of_ext (zg G6))
 replace HZS := zi hb9
 replace HZH := zi (hf9.kept ((zg G6).kept (zg HZH)) (by omega))
 clear hb9 hf9 hHeld
 refine hK.out _ _ ⟨((zg FF6).tr (zg FF7)).kept (zg HBZ) (by omega), ((zg FF6).tr (zg FF7)).kept (zg HB1Z) (by omega), ((zg FF6).tr (zg FF7)).kept (zg HBBZ) (by have := zg HLT; omega)⟩ (fun hHeld => ?_)
 clear hK K
 refine rdy 7 (by kernel_rfl) rfl (fun K hK => ?_)
 refine zad 41 _ _ rfl rfl (w.heap.size + 4) rfl _ _ #[.int .i64 cap, .slice va hn vc] rfl (zg HZH) zaB rfl (by simp [Value.oneCell']) ?_
 intro X hb9 hf9
 replace FF7 := zi ((zg FF7).tr (hf9.mono (fun q hq => by omega)))
 have FF := zi ((zg FF6).tr (zg FF7))
 replace HZS := zi (hf9.kept (zg HZS) (by omega))
 replace HZH := zi hb9
 clear hb9 hf9 hHeld
 refine hK.out _ _ ⟨(zg FF).kept (zg HBZ) (by omega), (zg FF).kept (zg HB1Z) (by omega), (zg FF).kept (zg HBBZ) (by have := zg HLT; omega)⟩ (fun hHeld => ?_)
 clear hK K
 refine tk 8 ?_ rfl (by kernel_rfl) (fun _ _ _ h => h) (by rfl) ?_ (by assumption) ?_
 rotate_left
 ·intro w' hSw; go_simp <;> with_reducible rfl
 simp only [Act.put, q9]
 refine wpAnyH_done (by kernel_rfl) ?_ _
 go_wp2
 have vS := fun i => cell_of_row X (w.heap.size + 3) i _ _ _ (zg HZS)
 have vH := fun i => cell_of_row X (w.heap.size + 4) i _ _ _ (zg HZH)
 exact bodyPost_ret (v := .tuple #[zaK (s.ln4 o) (.slice u2a o.un.length u2c) (.slice ha s.kh.length hc) (.slice pa s.pn pc) (.slice qa s.qn qc) (.slice la s.ln lc) (.slice da s.dn dc), .agg #[.int .i64 cap, .slice va hn vc], .slice u6a L.length u6c]) (by simp [results, Tryz.results53, go_sem, zaK, ze, SS.ln4, vS, vH]) rfl ⟨_, _, rfl, (zg HOZ).fr (zg FF) (fun g hg e => by have h1 := (zg HFT) g hg; have h2 := zg HLT; omega), fun g hg => by have h1 := (zg HU2) g hg; have h2 := zg HLT; omega, (by rw [zg HKO, if_neg (zg HHD)]; exact ((zg HR6).fr (zg FF7) (fun g hg e => by have h1 := zg z5; have h2 := zg HLT; have h3 := ((zg HR6).2 g hg).1; omega)).mono9 (by have h1 := zg z5; have h2 := zg HLT; omega)), (zg FF).ext (zg HEZ) (fun q hq => by omega)⟩
theorem zlU (b : Nat) (s : SS) (u h p q l d : Value) (cap : Int) (va : Option Addr) (hn vc : Nat) (k : List Int × Int) (ra : Option Addr) (rc : Nat) (w : World) (hO : zax w b s u h p q l d) (hb : b ≤ w.heap.size) (hk : Few k.2) (hr : zag w .i32 (.slice ra k.1.length rc) k.1) (iR : zbv k.1) (hr1 : k.1.length ≤ 1)
  (hln : s.LnP) (hp1 : zbT (baL s.pr)) (hp2 : (zp (baL s.pr)).length ≤ 40) (hs : zbl s.cols s.rows = true) :
  Calls Tryz.prog 53 #[zaK s u h p q l d, .agg #[.int .i64 cap, .slice va hn vc], .agg #[.int .i64 k.2, .slice ra k.1.length rc]] w fun e w' => ∃ u' v, e = .returned (.tuple #[zaK (s.ln4 (s.ed k)) u' h p q l d, .agg #[.int .i64 cap, .slice va hn vc], v]) ∧ zax w' b (s.ln4 (s.ed k)) u' h p q l d ∧ (∀ g, u'.ownBlock = some g → w.heap.size + 5 ≤ g) ∧ RB w' w.heap.size v (s.kyO k) ∧ Ext w w' := by
 by_cases hd : (s.ed k).d = 2
 ·exact zkN b s u h p q l d cap va hn vc k ra rc w hO hb hk hr iR hr1 hln hp1 hp2 hs hd
 ·exact zj9 b s u h p q l d cap va hn vc k ra rc w hO hb hk hr iR hr1 hln hp1 hp2 hs hd
end Go.Proofs.YtmlkpdbfnffoaaaGreatDoor
