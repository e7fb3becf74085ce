import Derived.Test.YtmlkpdbfnffoaaaGreatDoorWsL
import Derived.Test.YtmlkpdbfnffoaaaGreatDoorWsN
namespace Go.Proofs.YtmlkpdbfnffoaaaGreatDoor
open Go.RowKit
theorem zgp : (Tryz.prog.info? 38).map (·.size) = some 2 := by kernel_rfl
theorem zl4 {s : SS} {u h p q l d : Value} (j : Nat) (v : Value) (hj : (#[h, .bool s.kp] : Array Value)[j]? = some v) : (ze s u h p q l d)[7 + j]? = some v := by
 match j, hj with
 | 0, hj => exact hj
 | 1, hj => exact hj
 | j + 2, hj => simp at hj
theorem ziE {s : SS} {u h h' p q l d : Value} (bs : List Int) : (ze s u h p q l d).toList.take 7 ++ (#[h', .bool s.kp] : Array Value).toList ++ (ze s u h p q l d).toList.drop (7 + (#[h', .bool s.kp] : Array Value).size) = (ze { s with kh := bs } u h' p q l d).toList := by
 simp [ze]
theorem zan.cls9 {S : Nat → Prop} {w w' : World} {base : Nat} {v : Value} {rs : List Value} {cs : List (List Int × Int)} (h : zan w base v rs cs) (f : Fr S w w') (hS : ∀ g, base ≤ g → ¬ S g) : zgD w' v cs := by
 obtain ⟨h0, ⟨ys, h1, h2⟩, h3, h4⟩ := h
 exact zan.cls ⟨h0, ⟨ys, f.owns h1 (fun g hg => hS g (h1.lt g hg).1), h2⟩, fun j hj => f.owns (h3 j hj) (fun g hg => hS g ((h3 j hj).lt g hg).1), h4⟩
set_option linter.unusedSimpArgs false in
set_option maxRecDepth 10000 in
set_option maxHeartbeats 8000000 in
theorem ziV (s : SS) (cap : Int) (hn : Nat) (ht : Nat → ByteArray) (u h p q l d hv : Value) (w : World) (hA : zbb w s u h p q l d) (hH : zah w hv hn (fun j => .string (ht j))) (hHn : hn ≤ 1048576) (hHx : ∀ j, j < hn → (ht j).size ≤ 1048576) (hz : s.Sz) (hBy : zaj s.kh) (hok : zcv s) (hhk : zbY cap hn ht) (hst : s.st = false) :
  Calls Tryz.prog 7 #[zaK s u h p q l d, .agg #[.int .i64 cap, hv]] w fun e w' => ∃ v0 S0 v1 S1 v2 S2, e = .returned (.tuple #[v0, v1, v2, .int .i64 0]) ∧ (zeU s.wtS).O w' w.heap.size S0 v0 ∧ (ze3 cap hn (fun j => .string (ht j))).O w' w.heap.size S1 v1 ∧ (zcz s.wtB).O w' w.heap.size S2 v2 ∧ (∀ g, S0 g → ¬ S1 g) ∧ (∀ g, S0 g → ¬ S2 g) ∧ (∀ g, S1 g → ¬ S2 g) ∧ Ext w w' := by
 have hcC := zi (fun W (hW : Ext w W) => zhn s u h p q l d W (hA.ext hW) hz)
 have hcH := zi (fun W (hW : Ext w W) => zcZ cap hv hn ht W (hH.ext hW) hHn)
 have hcR := zi (fun W (hW : Ext w W) => zel s u h p q l d cap hv hn ht W (hA.ext hW) hz (hH.ext hW) hHn hHx 0 (.inr (.inr ⟨⟨hok, hhk⟩, hst, rfl⟩)))
 have hcT := zi (fun W (hW : Ext w W) => ziO h s.kh s.kp W (hA.kh.ext hW) hBy hz.kh)
 obtain ⟨ua, uc, ha, hc, pa, pc, qa, qc, la, lc, da, dc, rfl, rfl, rfl, rfl, rfl, rfl⟩ := hA.forms
 obtain ⟨hva, hvc, rfl, _, _⟩ := hH
 simp only [zb3] at hcC hcR
 rw [zb3]
 clear hA hHx hz hBy hst
 obtain ⟨V, hV⟩ : ∃ V, V = ((((w.alloc (.cells (ze s (.slice ua s.un uc) (.slice ha s.kh.length hc) (.slice pa s.pn pc) (.slice qa s.qn qc) (.slice la s.ln lc) (.slice da s.dn dc)) 40)).alloc (.cells #[.int .i64 cap, .slice hva hn hvc] 41)).alloc (.cells zSS 40)).alloc (.cells zH2 41)) := ⟨_, rfl⟩
 have E0 : Ext w V := by rw [hV]; exact ((((Ext.refl w).alloc _).alloc _).alloc _).alloc _
 have zV : Hid (V.heap.size = w.heap.size + 4) := zi (by rw [hV]; simp)
 have HB0 : Hid (V.heap[w.heap.size]? = some (.cells (ze s (.slice ua s.un uc) (.slice ha s.kh.length hc) (.slice pa s.pn pc) (.slice qa s.qn qc) (.slice la s.ln lc) (.slice da s.dn dc)) 40 (0, 0))) := zi (by rw [hV]; exact ((((Ext.refl _).alloc _).alloc _).alloc _).kept (zn w _))
 have HB1 : Hid (V.heap[w.heap.size + 1]? = some (.cells #[.int .i64 cap, .slice hva hn hvc] 41 (0, 0))) := zi (by rw [hV]; refine (((Ext.refl _).alloc _).alloc _).kept ?_; have h := zn (w.alloc (.cells (ze s (.slice ua s.un uc) (.slice ha s.kh.length hc) (.slice pa s.pn pc) (.slice qa s.qn qc) (.slice la s.ln lc) (.slice da s.dn dc)) 40)) (.cells #[.int .i64 cap, .slice hva hn hvc] 41); rw [show (w.alloc (.cells (ze s (.slice ua s.un uc) (.slice ha s.kh.length hc) (.slice pa s.pn pc) (.slice qa s.qn qc) (.slice la s.ln lc) (.slice da s.dn dc)) 40)).heap.size = w.heap.size + 1 by simp] at h; exact h)
 have HZS : Hid (V.heap[w.heap.size + 2]? = some (.cells zSS 40 (0, 0))) := zi (by rw [hV]; refine ((Ext.refl _).alloc _).kept ?_; have h := zn ((w.alloc (.cells (ze s (.slice ua s.un uc) (.slice ha s.kh.length hc) (.slice pa s.pn pc) (.slice qa s.qn qc) (.slice la s.ln lc) (.slice da s.dn dc)) 40)).alloc (.cells #[.int .i64 cap, .slice hva hn hvc] 41)) (.cells zSS 40); rw [show ((w.alloc (.cells (ze s (.slice ua s.un uc) (.slice ha s.kh.length hc) (.slice pa s.pn pc) (.slice qa s.qn qc) (.slice la s.ln lc) (.slice da s.dn dc)) 40)).alloc (.cells #[.int .i64 cap, .slice hva hn hvc] 41)).heap.size = w.heap.size + 2 by simp] at h; exact h)
 have HZH : Hid (V.heap[w.heap.size + 3]? = some (.cells zH2 41 (0, 0))) := zi (by rw [hV]; have h := zn (((w.alloc (.cells (ze s (.slice ua s.un uc) (.slice ha s.kh.length hc) (.slice pa s.pn pc) (.slice qa s.qn qc) (.slice la s.ln lc) (.slice da s.dn dc)) 40)).alloc (.cells #[.int .i64 cap, .slice hva hn hvc] 41)).alloc (.cells zSS 40)) (.cells zH2 41); rw [show (((w.alloc (.cells (ze s (.slice ua s.un uc) (.slice ha s.kh.length hc) (.slice pa s.pn pc) (.slice qa s.qn qc) (.slice la s.ln lc) (.slice da s.dn dc)) 40)).alloc (.cells #[.int .i64 cap, .slice hva hn hvc] 41)).alloc (.cells zSS 40)).heap.size = w.heap.size + 3 by simp] at h; exact h)
 have HV := zi hV
 have HE := zi E0
 clear hV E0
 go_enter Tryz.func7, Tryz.ntmps7
 go_upto_region 1 with fail
 rw [← zg HV]
 clear HV
 go_wp2_with (refine zm rfl 40 _ rfl (w.heap.size) rfl _ _ _ _ (zg HB0) Tryz.underlying40 rfl zap ?_)
 refine ((zg hcC) _ (zg HE)).mono ?_
 rintro e w1 ⟨u1, h1, p1, q1, l1, d1, rfl, hO, E1⟩
 obtain ⟨u1a, u1c, h1a, h1c, p1a, p1c, q1a, q1c, l1a, l1c, d1a, d1c, rfl, rfl, rfl, rfl, rfl, rfl⟩ := hO.reads.forms
 have HO1 := zi hO
 have z1 : Hid (w.heap.size + 4 ≤ w1.heap.size) := zi (by have := E1.size; have := zg zV; omega)
 replace HE := Hid.ht HE E1
 replace HB0 := E1.hk HB0
 replace HB1 := E1.hk HB1
 replace HZS := E1.hk HZS
 replace HZH := E1.hk HZH
 clear hO E1 hcC
 go_wp2_with (first
  | (refine zy rfl 40 _ _ rfl rfl (w1.heap.size) rfl _ _ (ze s (.slice u1a s.un u1c) (.slice h1a s.kh.length h1c) (.slice p1a s.pn p1c) (.slice q1a s.qn q1c) (.slice l1a s.ln l1c) (.slice d1a s.dn d1c)) rfl (zn w1 _) zap rfl (by simp [Value.oneCell', ze]) ?_; intro U1 hB hU; have HU1 := zi (hU.ext ((Ext.refl w1).alloc _) (fun q hq => by omega)); have HB8 := zi hB; clear hB hU)
  | (refine zm rfl 41 _ rfl (w.heap.size + 1) rfl _ _ _ _ ((zg HU1).kept (zg HB1)) Tryz.underlying41 rfl zaB ?_))
 refine ((zg hcH) _ ((zg HE).trans (zg HU1))).mono ?_
 rintro e w2 ⟨va, vc, rfl, hO2, E2⟩
 have EU := (zg HU1).trans E2
 have HO2 := zi hO2
 have z2 : Hid (w1.heap.size < U1.heap.size ∧ U1.heap.size ≤ w2.heap.size) := zi ⟨zt (zg HB8), E2.size⟩
 have HO1' := zi ((zg HO1).ext EU)
 have HF1 : Hid (∀ g, zab (.slice u1a s.un u1c) (.slice h1a s.kh.length h1c) (.slice p1a s.pn p1c) (.slice q1a s.qn q1c) (.slice l1a s.ln l1c) (.slice d1a s.dn d1c) g → V.heap.size ≤ g ∧ g < w1.heap.size) := zi (fun g hg => (zg HO1).foot hg)
 have HF2 : Hid (∀ g, (Value.slice va hn vc).ownBlock = some g → U1.heap.size ≤ g ∧ g < w2.heap.size) := zi (fun g hg => (zg HO2).lt g hg)
 replace HE := Hid.ht HE EU
 replace HB0 := EU.hk HB0
 replace HB1 := EU.hk HB1
 replace HZS := EU.hk HZS
 replace HZH := EU.hk HZH
 replace HB8 := E2.hk HB8
 clear hO2 E2 EU HU1 HO1 hcH
 go_wp2_with (first
  | (refine zy rfl 41 _ _ rfl rfl (w2.heap.size) rfl _ _ #[.int .i64 cap, .slice va hn vc] rfl (zn w2 _) zaB rfl (by simp [Value.oneCell']) ?_; intro U2 hB hU; have HU2 := zi (hU.ext ((Ext.refl w2).alloc _) (fun q hq => by omega)); have HB9 := zi hB; clear hB hU)
  | (refine zm rfl 40 _ rfl (w.heap.size) rfl _ _ _ _ ((zg HU2).kept (zg HB0)) Tryz.underlying40 rfl zap ?_)
  | (refine zm rfl 41 _ rfl (w.heap.size + 1) rfl _ _ _ _ ((zg HU2).kept (zg HB1)) Tryz.underlying41 rfl zaB ?_))
 refine ((zg hcR) _ ((zg HE).trans (zg HU2))).mono ?_
 rintro e w3 ⟨rfl, E3⟩
 have EU := (zg HU2).trans E3
 have z3 : Hid (w2.heap.size < w3.heap.size) := zi (zt (E3.kept (zg HB9)))
 replace HO1' := zi ((zg HO1').ext EU)
 replace HO2 := zi ((zg HO2).ext EU)
 replace HE := Hid.ht HE EU
 replace HB0 := EU.hk HB0
 replace HZS := EU.hk HZS
 replace HZH := EU.hk HZH
 replace HB8 := EU.hk HB8
 replace HB9 := E3.hk HB9
 clear E3 EU HU2 HB1 hcR
 have hcK := zi (fun W (b : Nat) (h' : Value) (ka : Option Addr) (kc : Nat) (hO : zax W b s.wt0 (.slice u1a s.un u1c) h' (.slice p1a s.pn p1c) (.slice q1a s.qn q1c) (.slice l1a s.ln l1c) (.slice d1a s.dn d1c)) (hb : b ≤ W.heap.size) (hK : zgD W (.slice ka (zaS s.kh s.kp).length kc) (zaS s.kh s.kp)) => zkl b s.wt0 (.slice u1a s.un u1c) h' (.slice p1a s.pn p1c) (.slice q1a s.qn q1c) (.slice l1a s.ln l1c) (.slice d1a s.dn d1c) cap va hn vc ka kc (zaS s.kh s.kp) W hO hb hK (by have h1 := zfG s.kh s.kp; have h2 := hok.2.2.2.1; omega) (fun j hj => zdT s.kh s.kp j hj) (fun j => zhN s.kh s.kp j) hok.2.2.1 hok.1.1 hok.1.2 hok.2.1)
 simp only [zb3] at hcK
 go_wp2_with (refine zbc rfl 38 _ rfl (w.heap.size) 7 rfl _ _ #[.slice ha s.kh.length hc, .bool s.kp] _ _ (zg HB0) zl4 Tryz.underlying38 rfl zgp ?_)
 refine ((zg hcT) _ (zg HE)).mono ?_
 rintro e w4 ⟨h4, k4, rs4, rfl, hh4, hk4, E4⟩
 obtain ⟨h4a, h4c, rfl⟩ := zaE hh4
 obtain ⟨k4a, k4c, rfl⟩ : ∃ a c, k4 = .slice a (zaS s.kh s.kp).length c := by
  obtain ⟨_, ⟨ys, h9, _⟩, _⟩ := id hk4
  exact zaE h9
 have HO4 := zi ((zg HO1').hold E4 (zaV s.kh s.kp) s.kp hh4 (by have h1 := zg zV; have h2 := (zg HE).size; have h3 := zg z1; have h4 := zg z2; have h5 := zg z3; omega))
 have HL4 : Hid (∀ g, (Value.slice h4a (zaV s.kh s.kp).length h4c).ownBlock = some g → w3.heap.size ≤ g ∧ g < w4.heap.size) := zi (fun g hg => hh4.lt g hg)
 have HK4 := zi hk4
 have z4 : Hid (w3.heap.size ≤ w4.heap.size) := zi E4.size
 replace HO2 := zi ((zg HO2).ext E4)
 replace HE := Hid.ht HE E4
 replace HZS := E4.hk HZS
 replace HZH := E4.hk HZH
 replace HB8 := E4.hk HB8
 replace HB9 := E4.hk HB9
 clear hh4 hk4 E4 hcT HB0 HO1'
 have HST := zi (ziE (s := s) (u := .slice u1a s.un u1c) (h := .slice h1a s.kh.length h1c) (h' := .slice h4a (zaV s.kh s.kp).length h4c) (p := .slice p1a s.pn p1c) (q := .slice q1a s.qn q1c) (l := .slice l1a s.ln l1c) (d := .slice d1a s.dn d1c) (zaV s.kh s.kp))
 go_upto_region 8 with (first
  | (refine zy rfl 38 _ _ rfl rfl (w4.heap.size) rfl _ _ #[.slice h4a (zaV s.kh s.kp).length h4c, .bool s.kp] rfl (zn w4 _) zgp rfl (by simp [Value.oneCell']) ?_; intro U4 hB hU; have HU4 := zi (hU.ext ((Ext.refl w4).alloc _) (fun q hq => by omega)); have HBR := zi hB; clear hB hU)
  | (refine zm rfl 38 _ rfl (w4.heap.size) rfl _ _ _ _ (zg HBR) Tryz.underlying38 rfl zgp ?_)
  | (refine zaO rfl 38 _ _ rfl rfl (w1.heap.size) 7 rfl 40 _ #[.slice h4a (zaV s.kh s.kp).length h4c, .bool s.kp] _ rfl ((zg HU4).kept (zg HB8)) zgp (by show 7 + 2 ≤ _; simp [ze]) (by simp [Value.oneCell']) (zg HST) ?_; intro Z hy hf; have HBZ := zi hy; have HFZ := zi hf; clear hy hf))
 have HF4 : Hid (∀ g, zab (.slice u1a s.un u1c) (.slice h4a (zaV s.kh s.kp).length h4c) (.slice p1a s.pn p1c) (.slice q1a s.qn q1c) (.slice l1a s.ln l1c) (.slice d1a s.dn d1c) g → (V.heap.size ≤ g ∧ g < w1.heap.size) ∨ (w3.heap.size ≤ g ∧ g < w4.heap.size)) := zi (fun g hg => by
  rcases hg with hg | hg | hg
  ·exact .inl ((zg HF1) g (.inl hg))
  ·exact .inr ((zg HL4) g hg)
  ·exact .inl ((zg HF1) g (.inr (.inr hg))))
 have HLT : Hid (w.heap.size + 4 = V.heap.size ∧ V.heap.size ≤ w1.heap.size ∧ w1.heap.size < U1.heap.size ∧ U1.heap.size ≤ w2.heap.size ∧ w2.heap.size < w3.heap.size ∧ w3.heap.size ≤ w4.heap.size ∧ w4.heap.size ≤ Z.heap.size) := zi (by have h1 := zg z1; have h2 := zg z2; have h3 := zg z3; have h4 := zg z4; have h5 := zg zV; have h6 := (zg HU4).size; have h7 := (zg HFZ).size; omega)
 have HOZ := zi (((zg HO4).ext (zg HU4)).fr (zg HFZ) (fun g hg e => by have h1 := (zg HF4) g hg; have h2 := zg HLT; omega))
 have HKZ := zi (((zg HK4).ext (zg HU4)).cls9 (zg HFZ) (fun g hg e => by have h2 := zg HLT; omega))
 have HO2Z := zi (((zg HO2).ext (zg HU4)).fr (zg HFZ) (fun g hg e => by have h1 := (zg HF2) g hg; have h2 := zg HLT; omega))
 have HEZ := zi ((zg HFZ).ext ((zg HE).trans (zg HU4)) (fun q hq => by have h2 := zg HLT; omega))
 have HB9Z := zi ((zg HFZ).kept ((zg HU4).kept (zg HB9)) (by have h2 := zg HLT; omega))
 replace HZS := zi ((zg HFZ).kept ((zg HU4).kept (zg HZS)) (by have h2 := zg HLT; omega))
 replace HZH := zi ((zg HFZ).kept ((zg HU4).kept (zg HZH)) (by have h2 := zg HLT; omega))
 clear HO4 HK4 HO2 HE HB8 HB9 HU4 HFZ HBR HST z1 z2 z3 z4 zV
 go_wp2_with (first
  | (refine zm rfl 40 _ rfl (w1.heap.size) rfl _ _ _ _ (zg HBZ) Tryz.underlying40 rfl zap ?_)
  | (refine zm rfl 41 _ rfl (w2.heap.size) rfl _ _ _ _ (zg HB9Z) Tryz.underlying41 rfl zaB ?_))
 refine ((zg hcK) _ _ _ _ _ (zg HOZ) (by have h2 := zg HLT; omega) (zg HKZ)).mono ?_
 rintro e w5 ⟨xa, xc, v5, rfl, hO5, hf5, ho5, E5⟩
 obtain ⟨a5, c5, rfl⟩ := zaE ho5
 obtain ⟨x, hx⟩ : ∃ x, x = s.wtS := ⟨_, rfl⟩
 obtain ⟨bs, hbs⟩ : ∃ bs, bs = s.wtB := ⟨_, rfl⟩
 rw [show SS.kyS (zaS s.kh s.kp) s.wt0 (zaS s.kh s.kp).length = x from hx.symm] at hO5 hf5 ⊢
 rw [show SS.kyB (zaS s.kh s.kp) s.wt0 (zaS s.kh s.kp).length = bs from hbs.symm] at ho5 ⊢
 have HO5 := zi hO5
 have Hf5 := zi hf5
 have Ho5 := zi ho5
 have HE5 := zi E5
 have HXS := zi (And.intro hx hbs)
 replace HZS := E5.hk HZS
 replace HZH := E5.hk HZH
 clear hO5 hf5 ho5 E5 hx hbs hcK
 go_wp2_with (first
  | (refine zy rfl 40 _ _ rfl rfl (w.heap.size + 2) rfl _ _ (ze x (.slice xa x.un xc) (.slice h4a (zaV s.kh s.kp).length h4c) (.slice p1a s.pn p1c) (.slice q1a s.qn q1c) (.slice l1a s.ln l1c) (.slice d1a s.dn d1c)) rfl (zg HZS) zap rfl (by simp [Value.oneCell', ze]) ?_; intro X1 hy hf; have HX1 := zi hy; have FX1 := zi hf; clear hy hf)
  | (refine zy rfl 41 _ _ rfl rfl (w.heap.size + 3) rfl _ _ #[.int .i64 cap, .slice va hn vc] rfl ((zg FX1).kept (zg HZH) (by omega)) zaB rfl (by simp [Value.oneCell']) ?_; intro X hy hf; have HXH := zi hy; have HXS2 := zi (hf.kept (zg HX1) (by omega)); have FF : Hid (Fr (fun q => q = w.heap.size + 2 ∨ q = w.heap.size + 3) w5 X) := zi (((zg FX1).mono (fun q hq => .inl hq)).tr (hf.mono (fun q hq => .inr hq))); clear hy hf))
 replace HZS := HXS2
 replace HZH := HXH
 have hlt := zg HLT
 have fS := (zg HO5).fr (zg FF) (fun g hg e => by
  rcases hg with hg | hg
  ·rcases (zg Hf5) g hg with h1 | h1
   ·have h2 := (zg HF4) g (.inl h1); omega
   ·omega
  ·have h2 := (zg HF4) g (.inr hg); omega)
 have fB := (zg FF).owns (zg Ho5) (fun g hg e => by have h1 := ((zg Ho5).lt g hg).1; omega)
 obtain ⟨hx, hbs⟩ := zg HXS
 clear HXS
 subst hx hbs
 have vS := fun i => cell_of_row X (w.heap.size + 2) i _ _ _ (zg HZS)
 have vH := fun i => cell_of_row X (w.heap.size + 3) i _ _ _ (zg HZH)
 refine bodyPost_ret (v := .tuple #[zaK s.wtS (.slice xa s.wtS.un xc) (.slice h4a (zaV s.kh s.kp).length h4c) (.slice p1a s.pn p1c) (.slice q1a s.qn q1c) (.slice l1a s.ln l1c) (.slice d1a s.dn d1c), .agg #[.int .i64 cap, .slice va hn vc], .slice a5 s.wtB.length c5, .int .i64 0]) (by simp [results, Tryz.results7, go_sem, zaK, ze, vS, vH]) rfl ⟨_, _, _, _, _, _, rfl, ze8 (fS.mono (by omega)), ze9 (((zg HO2Z).ext (zg HE5)).fr (zg FF) (fun g hg e => by have h1 := (zg HF2) g hg; omega) |>.mono (by omega)), zev (zas fB (by omega)), fun g hg hg2 => ?_, fun g hg hg2 => ?_, fun g hg hg2 => ?_, (zg FF).ext ((zg HEZ).trans (zg HE5)) (fun q hq => by omega)⟩
 ·have h2 := (zg HF2) g hg2
  rcases hg with hg | hg
  ·rcases (zg Hf5) g hg with h1 | h1
   ·have h3 := (zg HF4) g (.inl h1); omega
   ·omega
  ·have h3 := (zg HF4) g (.inr hg); omega
 ·have h2 := ((zg Ho5).lt g hg2).1
  rcases hg with hg | hg
  ·obtain ⟨ys, h9, _⟩ := fS.un
   exact zaW h9 fB (by decide) hg hg2
  ·have h3 := (zg HF4) g (.inr hg); omega
 ·have h2 := ((zg Ho5).lt g hg2).1
  have h1 := (zg HF2) g hg
  omega
theorem ziz (s s' : SS) (cap : Int) (hn : Nat) (ht : Nat → ByteArray) (zs : List Int) (cd : Int) (hR : zgK s cap hn ht s' zs cd) (u h p q l d hv : Value) (w : World) (hA : zbb w s u h p q l d) (hH : zah w hv hn (fun j => .string (ht j))) (hHn : hn ≤ 1048576) (hHx : ∀ j, j < hn → (ht j).size ≤ 1048576) (hz : s.Sz) (hBy : zaj s.kh) :
  Calls Tryz.prog 7 #[zaK s u h p q l d, .agg #[.int .i64 cap, hv]] w fun e w' => ∃ v0 S0 v1 S1 v2 S2, e = .returned (.tuple #[v0, v1, v2, .int .i64 cd]) ∧ (zeU s').O w' w.heap.size S0 v0 ∧ (ze3 cap hn (fun j => .string (ht j))).O w' w.heap.size S1 v1 ∧ (zcz zs).O w' w.heap.size S2 v2 ∧ (∀ g, S0 g → ¬ S1 g) ∧ (∀ g, S0 g → ¬ S2 g) ∧ (∀ g, S1 g → ¬ S2 g) ∧ Ext w w' := by
 rcases hR with ⟨k1, k2, k3, rfl, rfl, rfl⟩ | ⟨k1, k2, k3, rfl, rfl, rfl⟩ | ⟨k1, rfl, rfl, rfl⟩
 ·exact ziV s cap hn ht u h p q l d hv w hA hH hHn hHx hz hBy k1 k2 k3
 ·exact zf8 _ cap hn ht u h p q l d hv w hA hH hHn hHx hz 3 (.inr ⟨⟨k1, k2⟩, k3, rfl⟩)
 ·exact zf8 _ cap hn ht u h p q l d hv w hA hH hHn hHx hz 1 (.inl ⟨k1, rfl⟩)
end Go.Proofs.YtmlkpdbfnffoaaaGreatDoor
