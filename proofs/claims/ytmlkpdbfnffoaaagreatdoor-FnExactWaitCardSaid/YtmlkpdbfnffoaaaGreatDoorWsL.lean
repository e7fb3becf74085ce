import Derived.Test.YtmlkpdbfnffoaaaGreatDoorWsK
namespace Go.Proofs.YtmlkpdbfnffoaaaGreatDoor
open Go.RowKit
structure KsI (w : World) (b : Nat) (ks : List (List Int × Int)) (s : SS) (k : Nat) (h p q l d : Value) (cap : Int) (va : Option Addr) (hn vc : Nat) (xa : Option Addr) (xc : Nat) (oa : Option Addr) (oc : Nat) (wr : World) : Prop where
 ses : wr.heap[w.heap.size]? = some (.cells (ze (SS.kyS ks s k) (.slice xa (SS.kyS ks s k).un xc) h p q l d) 40 (0, 0))
 his : wr.heap[w.heap.size + 1]? = some (.cells #[.int .i64 cap, .slice va hn vc] 41 (0, 0))
 zs : wr.heap[w.heap.size + 2]? = some (.cells zSS 40 (0, 0))
 zh : wr.heap[w.heap.size + 3]? = some (.cells zH2 41 (0, 0))
 own : zax wr b (SS.kyS ks s k) (.slice xa (SS.kyS ks s k).un xc) h p q l d
 out : wr.ownsRow (w.heap.size + 4) 5 1 (.slice oa (SS.kyB ks s k).length oc) (SS.kyB ks s k).length ((SS.kyB ks s k).map (Value.int .u8))
 ext : Ext w wr
 size : w.heap.size + 5 ≤ wr.heap.size
set_option linter.unusedVariables false in
set_option linter.unusedSimpArgs false in
set_option maxRecDepth 10000 in
set_option maxHeartbeats 8000000 in
theorem zkl (b : Nat) (s : SS) (u h p q l d : Value) (cap : Int) (va : Option Addr) (hn vc : Nat) (ka : Option Addr) (kc : Nat) (ks : List (List Int × Int)) (w : World) (hO : zax w b s u h p q l d) (hb : b ≤ w.heap.size) (hK : zgD w (.slice ka ks.length kc) ks) (hks : ks.length ≤ 2000) (hfew : ∀ j, j < ks.length → Few (cW ks j) ∧ zbv (cR ks j)) (hr1 : ∀ j, (cR ks j).length ≤ 1)
  (hln : s.LnP) (hp1 : zbT (baL s.pr)) (hp2 : (zp (baL s.pr)).length ≤ 40) (hs : zbl s.cols s.rows = true) :
  Calls Tryz.prog 30 #[zaK s u h p q l d, .agg #[.int .i64 cap, .slice va hn vc], .slice ka ks.length kc] w fun e w' => ∃ xa xc v, e = .returned (.tuple #[zaK (SS.kyS ks s ks.length) (.slice xa (SS.kyS ks s ks.length).un xc) h p q l d, .agg #[.int .i64 cap, .slice va hn vc], v, .int .i64 0]) ∧ zax w' b (SS.kyS ks s ks.length) (.slice xa (SS.kyS ks s ks.length).un xc) h p q l d ∧ (∀ g, (Value.slice xa (SS.kyS ks s ks.length).un xc).ownBlock = some g → u.ownBlock = some g ∨ w.heap.size ≤ g) ∧ w'.ownsRow w.heap.size 5 1 v (SS.kyB ks s ks.length).length ((SS.kyB ks s ks.length).map (Value.int .u8)) ∧ Ext w w' := by
 obtain ⟨iu, hiu, hu0, hu1, hu2⟩ := info_parts zgL
 obtain ⟨ua, uc, ha, hc, pa, pc, qa, qc, la, lc, da, dc, rfl, rfl, rfl, rfl, rfl, rfl⟩ := hO.reads.forms
 obtain ⟨V, hV⟩ : ∃ V, V = (((((w.alloc (.cells (ze s (.slice ua s.un uc) (.slice ha s.kh.length hc) (.slice pa s.pn pc) (.slice qa s.qn qc) (.slice la s.ln lc) (.slice da s.dn dc)) 40)).alloc (.cells #[.int .i64 cap, .slice va hn vc] 41)).alloc (.cells zSS 40)).alloc (.cells zH2 41)).alloc (.cells #[] 5)) := ⟨_, rfl⟩
 have E0 : Ext w V := by rw [hV]; exact (((((Ext.refl w).alloc _).alloc _).alloc _).alloc _).alloc _
 have zV : V.heap.size = w.heap.size + 5 := by rw [hV]; simp
 have HB0 : V.heap[w.heap.size]? = some (.cells (ze s (.slice ua s.un uc) (.slice ha s.kh.length hc) (.slice pa s.pn pc) (.slice qa s.qn qc) (.slice la s.ln lc) (.slice da s.dn dc)) 40 (0, 0)) := by rw [hV]; exact (((((Ext.refl _).alloc _).alloc _).alloc _).alloc _).kept (zn w _)
 have HB1 : V.heap[w.heap.size + 1]? = some (.cells #[.int .i64 cap, .slice va hn vc] 41 (0, 0)) := by rw [hV]; refine ((((Ext.refl _).alloc _).alloc _).alloc _).kept ?_; have h := zn (w.alloc (.cells (ze s (.slice ua s.un uc) (.slice ha s.kh.length hc) (.slice pa s.pn pc) (.slice qa s.qn qc) (.slice la s.ln lc) (.slice da s.dn dc)) 40)) (.cells #[.int .i64 cap, .slice va hn vc] 41); rw [show (w.alloc (.cells (ze s (.slice ua s.un uc) (.slice ha s.kh.length hc) (.slice pa s.pn pc) (.slice qa s.qn qc) (.slice la s.ln lc) (.slice da s.dn dc)) 40)).heap.size = w.heap.size + 1 by simp] at h; exact h
 have HZS : V.heap[w.heap.size + 2]? = some (.cells zSS 40 (0, 0)) := by rw [hV]; refine (((Ext.refl _).alloc _).alloc _).kept ?_; have h := zn ((w.alloc (.cells (ze s (.slice ua s.un uc) (.slice ha s.kh.length hc) (.slice pa s.pn pc) (.slice qa s.qn qc) (.slice la s.ln lc) (.slice da s.dn dc)) 40)).alloc (.cells #[.int .i64 cap, .slice va hn vc] 41)) (.cells zSS 40); rw [show ((w.alloc (.cells (ze s (.slice ua s.un uc) (.slice ha s.kh.length hc) (.slice pa s.pn pc) (.slice qa s.qn qc) (.slice la s.ln lc) (.slice da s.dn dc)) 40)).alloc (.cells #[.int .i64 cap, .slice va hn vc] 41)).heap.size = w.heap.size + 2 by simp] at h; exact h
 have HZH : V.heap[w.heap.size + 3]? = some (.cells zH2 41 (0, 0)) := by rw [hV]; refine ((Ext.refl _).alloc _).kept ?_; have h := zn (((w.alloc (.cells (ze s (.slice ua s.un uc) (.slice ha s.kh.length hc) (.slice pa s.pn pc) (.slice qa s.qn qc) (.slice la s.ln lc) (.slice da s.dn dc)) 40)).alloc (.cells #[.int .i64 cap, .slice va hn vc] 41)).alloc (.cells zSS 40)) (.cells zH2 41); rw [show (((w.alloc (.cells (ze s (.slice ua s.un uc) (.slice ha s.kh.length hc) (.slice pa s.pn pc) (.slice qa s.qn qc) (.slice la s.ln lc) (.slice da s.dn dc)) 40)).alloc (.cells #[.int .i64 cap, .slice va hn vc] 41)).alloc (.cells zSS 40)).heap.size = w.heap.size + 3 by simp] at h; exact h
 have HBO : V.ownsRow (w.heap.size + 4) 5 1 (.slice (some ⟨w.heap.size + 4, 0, none⟩) 0 0) 0 [] := by rw [hV]; have h := zaA ((((w.alloc (.cells (ze s (.slice ua s.un uc) (.slice ha s.kh.length hc) (.slice pa s.pn pc) (.slice qa s.qn qc) (.slice la s.ln lc) (.slice da s.dn dc)) 40)).alloc (.cells #[.int .i64 cap, .slice va hn vc] 41)).alloc (.cells zSS 40)).alloc (.cells zH2 41)) (w.heap.size + 4) 5 1 (by simp); rw [show ((((w.alloc (.cells (ze s (.slice ua s.un uc) (.slice ha s.kh.length hc) (.slice pa s.pn pc) (.slice qa s.qn qc) (.slice la s.ln lc) (.slice da s.dn dc)) 40)).alloc (.cells #[.int .i64 cap, .slice va hn vc] 41)).alloc (.cells zSS 40)).alloc (.cells zH2 41)).heap.size = w.heap.size + 4 by simp] at h; exact h
 have HI : Hid (KsI w b ks s 0 (.slice ha s.kh.length hc) (.slice pa s.pn pc) (.slice qa s.qn qc) (.slice la s.ln lc) (.slice da s.dn dc) cap va hn vc ua uc (some ⟨w.heap.size + 4, 0, none⟩) 0 V) := zi ⟨HB0, HB1, HZS, HZH, hO.ext E0, HBO, E0, by omega⟩
 have HV := zi hV
 have HKA := zi hK
 have HFEW := zi hfew
 have HR1 := zi hr1
 have HLN := zi hln
 have HP1 := zi hp1
 have HF0 : Hid (∀ g, zab (.slice ua s.un uc) (.slice ha s.kh.length hc) (.slice pa s.pn pc) (.slice qa s.qn qc) (.slice la s.ln lc) (.slice da s.dn dc) g → g < w.heap.size) := zi (fun g hg => (hO.foot (g := g) hg).2)
 clear hV E0 zV HB0 HB1 HZS HZH HBO hK hfew hr1 hln hp1
 rw [zb3]
 go_enter Tryz.func30, Tryz.ntmps30
 go_upto_region 2 with fail
 rw [← zg HV]
 clear HV
 go_wp2
 go_loopw [10, 11] (fun ov i wr => ∃ (k : Nat) (xa : Option Addr) (xc : Nat) (oa : Option Addr) (oc : Nat), k ≤ ks.length ∧ ov = .slice oa (SS.kyB ks s k).length oc ∧ i = .int .i64 k ∧ Hid (KsI w b ks s k (.slice ha s.kh.length hc) (.slice pa s.pn pc) (.slice qa s.qn qc) (.slice la s.ln lc) (.slice da s.dn dc) cap va hn vc xa xc oa oc wr) ∧ Hid (∀ g, (Value.slice xa (SS.kyS ks s k).un xc).ownBlock = some g → (Value.slice ua s.un uc).ownBlock = some g ∨ w.heap.size + 5 ≤ g)) (fun ov i _ => ks.length - (intOf i).toNat)
 case atStart => exact ⟨0, ua, uc, some ⟨w.heap.size + 4, 0, none⟩, 0, Nat.zero_le _, rfl, rfl, HI, zi (fun g hg => .inl hg)⟩
 case round =>
  obtain ⟨k, xa, xc, oa, oc, hk, rfl, rfl, HIk, HU⟩ := hrel
  clear HI
  by_cases hlt : k < ks.length
  ·obtain ⟨t, ht⟩ : ∃ t, t = SS.kyS ks s k := ⟨_, rfl⟩
   obtain ⟨bs, hbs⟩ : ∃ bs, bs = SS.kyB ks s k := ⟨_, rfl⟩
   obtain ⟨o, ho⟩ : ∃ o, o = t.ed (cR ks k, cW ks k) := ⟨_, rfl⟩
   have L : s.Like t := by rw [ht]; exact SS.kyS_like ks s k
   have hbl : bs.length ≤ 280000000 := by
    rw [hbs]
    have h1 := SS.kyB_len ks s (zg HP1) hp2 (zg HLN) hs (fun j hj => ((zg HFEW) j hj).1) k hk
    have h2 : k * 140000 ≤ 2000 * 140000 := Nat.mul_le_mul_right _ (by omega)
    omega
   have HN1 : Hid (SS.kyS ks s (k + 1) = t.ln4 o) := zi (by rw [ho, ht]; rfl)
   have HN2 : Hid (SS.kyB ks s (k + 1) = bs ++ t.kyO (cR ks k, cW ks k)) := zi (by rw [hbs, ht]; rfl)
   have hko := t.kyO_len (by rw [L.pr]; exact zg HP1) (by rw [L.pr]; exact hp2) (by rw [ht]; exact SS.kyS_ln ks s (zg HLN) (fun j hj => ((zg HFEW) j hj).1) k hk) (by rw [L.cols, L.rows]; exact hs) (cR ks k, cW ks k) ((zg HFEW) k hlt).1
   obtain ⟨rs', ao', cap', e', _, hri, hxx⟩ := (zg HKA).ext (zg HIk).ext
   obtain ⟨rfl, _, rfl⟩ := Value.slice.inj e'
   obtain ⟨kb, off, hao, hcell⟩ := hxx (by omega)
   subst hao
   obtain ⟨g1, g2⟩ := hcell k hlt
   have hik := hri k hlt
   obtain ⟨ra, rc, hrv, _⟩ := id hik
   rw [hrv] at g1 hik
   obtain ⟨h1, h2, h3, h4, h5, h6, h7, h8⟩ := zg HIk
   rw [← ht] at h1 h5 HU
   rw [← hbs] at h6
   rw [← hbs]
   have hcK := zi (fun U (E : Ext wr U) => zlU b t (.slice xa t.un xc) (.slice ha s.kh.length hc) (.slice pa s.pn pc) (.slice qa s.qn qc) (.slice la s.ln lc) (.slice da s.dn dc) cap va hn vc (cR ks k, cW ks k) ra rc U (h5.ext E) (by have := E.size; omega) ((zg HFEW) k hlt).1 (hik.ext E) ((zg HFEW) k hlt).2 ((zg HR1) k) (by rw [ht]; exact SS.kyS_ln ks s (zg HLN) (fun j hj => ((zg HFEW) j hj).1) k hk) (by rw [L.pr]; exact zg HP1) (by rw [L.pr]; exact hp2) (by rw [L.cols, L.rows]; exact hs))
   simp only [← ho, zb3] at hcK
   have HFO : Hid (∀ (a9 : Option Addr) (c9 : Nat) (g : Nat), zab (.slice a9 o.un.length c9) (.slice ha s.kh.length hc) (.slice pa s.pn pc) (.slice qa s.qn qc) (.slice la s.ln lc) (.slice da s.dn dc) g → g < w.heap.size ∨ (Value.slice a9 o.un.length c9).ownBlock = some g) := zi (fun a9 c9 g hg => by
    rcases hg with hg | hg | hg | hg | hg | hg
    ·exact .inr hg
    ·exact .inl ((zg HF0) g (.inr (.inl hg)))
    ·exact .inl ((zg HF0) g (.inr (.inr (.inl hg))))
    ·exact .inl ((zg HF0) g (.inr (.inr (.inr (.inl hg)))))
    ·exact .inl ((zg HF0) g (.inr (.inr (.inr (.inr (.inl hg))))))
    ·exact .inl ((zg HF0) g (.inr (.inr (.inr (.inr (.inr hg)))))))
   have HBS := zi h1
   have HBH := zi h2
   have HBZ := zi (And.intro h3 h4)
   have HOT := zi h6
   have HEX := zi h7
   have HSZ := zi h8
   have bk : (k : Int) < (ks.length : Int) := by omega
   clear ht hbs ho L hri hxx hcell e' hrv hik h1 h2 h3 h4 h5 h6 h7 h8 HIk
   go_upto_region 5 with fail
   go_cut [12, 13, 14] (fun v12 v13 v14 wq => ∃ (ba bb : Nat) (ya : Option Addr) (yc : Nat) (za : Option Addr) (zc : Nat), v12 = .pointer (some ⟨ba, 0, none⟩) ∧ v13 = .pointer (some ⟨bb, 0, none⟩) ∧ v14 = .slice za (t.kyO (cR ks k, cW ks k)).length zc ∧ Hid (wq.heap[ba]? = some (.cells (ze (t.ln4 o) (.slice ya o.un.length yc) (.slice ha s.kh.length hc) (.slice pa s.pn pc) (.slice qa s.qn qc) (.slice la s.ln lc) (.slice da s.dn dc)) 40 (0, 0))) ∧ Hid (wq.heap[bb]? = some (.cells #[.int .i64 cap, .slice va hn vc] 41 (0, 0))) ∧ Hid (zax wq b (t.ln4 o) (.slice ya o.un.length yc) (.slice ha s.kh.length hc) (.slice pa s.pn pc) (.slice qa s.qn qc) (.slice la s.ln lc) (.slice da s.dn dc)) ∧ Hid (RB wq wr.heap.size (.slice za (t.kyO (cR ks k, cW ks k)).length zc) (t.kyO (cR ks k, cW ks k))) ∧ Hid (∀ g, (Value.slice ya o.un.length yc).ownBlock = some g → wr.heap.size ≤ g) ∧ Hid (wr.heap.size ≤ ba ∧ wr.heap.size ≤ bb) ∧ Hid (Ext wr wq))
   case first =>
    refine wp_region_held_drew (S := fun W => W.heap[w.heap.size]? = some (.cells (ze t (.slice xa t.un xc) (.slice ha s.kh.length hc) (.slice pa s.pn pc) (.slice qa s.qn qc) (.slice la s.ln lc) (.slice da s.dn dc)) 40 (0, 0)) ∧ W.heap[w.heap.size + 1]? = some (.cells #[.int .i64 cap, .slice va hn vc] 41 (0, 0)) ∧ W.cell? ⟨kb, off + k * 2, none⟩ = some (.int .i64 (cW ks k)) ∧ W.cell? ⟨kb, off + k * 2 + 1, none⟩ = some (.slice ra (cR ks k).length rc)) (by kernel_rfl) ⟨zg HBS, zg HBH, g2, g1⟩ (fun hHeld => ?_)
    refine tk 0 (.agg (ze t (.slice xa t.un xc) (.slice ha s.kh.length hc) (.slice pa s.pn pc) (.slice qa s.qn qc) (.slice la s.ln lc) (.slice da s.dn dc))) rfl (by kernel_rfl) (fun _ _ _ h => h) (by rfl) ?_ (by assumption) ?_
    ·intro w' hSw; exact zae 40 _ rfl (w.heap.size) rfl _ _ _ _ hSw.1 Tryz.underlying40 rfl zap
    simp only [Act.put, q9]
    refine tk 1 (.agg #[.int .i64 cap, .slice va hn vc]) rfl (by kernel_rfl) (fun _ _ _ h => h) (by rfl) ?_ (by assumption) ?_
    ·intro w' hSw; exact zae 41 _ rfl (w.heap.size + 1) rfl _ _ _ _ hSw.2.1 Tryz.underlying41 rfl zaB
    simp only [Act.put, q9]
    refine tk 2 ?_ rfl (by kernel_rfl) (fun _ _ _ h => h) (by rfl) ?_ (by assumption) ?_
    rotate_left
    ·intro w' hSw; go_simp <;> with_reducible rfl
    simp only [Act.put, q9]
    refine tk 3 ?_ rfl (by kernel_rfl) (fun _ _ _ h => h) (by rfl) ?_ (by assumption) ?_
    rotate_left
    ·intro w' hSw; go_simp <;> with_reducible rfl
    simp only [Act.put, q9]
    refine wpAnyH_take (i := 4) (v := .pointer (some ⟨kb, off + k * 2, none⟩)) rfl (by kernel_rfl) (by kernel_rfl) (by kernel_rfl) (fun _ _ _ h => h) (Or.inl ⟨by rfl, ?_⟩) (by assumption) ?_
    ·intro w' hSw; go_simp <;> with_reducible rfl
    simp only [Act.put, q9]
    refine tk 5 (.agg #[.int .i64 (cW ks k), .slice ra (cR ks k).length rc]) rfl (by kernel_rfl) (fun _ _ _ h => h) (by rfl) ?_ (by assumption) ?_
    ·intro w' hSw; have k8 := hSw.2.2.1; have k9 := hSw.2.2.2; go_simp <;> with_reducible rfl
    simp only [Act.put, q9]
    have G := zi ((Ext.refl wr).drew)
    generalize wr.drew = Wc at *
    have tC : Tk 0 := rfl
    iterate 3 (all_goals ((first
     | (have _t : Tk 0 := tC; have _m := HMa; have _m := HMb; refine wpAnyH_ready (rs := [6]) (by kernel_rfl) (by simp) ?_; refine (AllReadyH.cons rfl (fun K hK => (fun (tE : Tk 6) => ?_) rfl) AllReadyH.nil))
     | (have _t : Tk 0 := tC; have _m := HMa; refine wpAnyH_ready (rs := [6, 12]) (by kernel_rfl) (by simp) ?_; refine (AllReadyH.cons rfl (fun K hK => (fun (tE : Tk 6) => ?_) rfl) (AllReadyH.cons rfl (fun K hK => (fun (tE : Tk 12) => ?_) rfl) AllReadyH.nil)))
     | (have _t : Tk 0 := tC; have _m := HMb; refine wpAnyH_ready (rs := [6, 11]) (by kernel_rfl) (by simp) ?_; refine (AllReadyH.cons rfl (fun K hK => (fun (tE : Tk 6) => ?_) rfl) (AllReadyH.cons rfl (fun K hK => (fun (tE : Tk 11) => ?_) rfl) AllReadyH.nil)))
     | (have _t : Tk 0 := tC; refine wpAnyH_ready (rs := [6, 11, 12]) (by kernel_rfl) (by simp) ?_; refine (AllReadyH.cons rfl (fun K hK => (fun (tE : Tk 6) => ?_) rfl) (AllReadyH.cons rfl (fun K hK => (fun (tE : Tk 11) => ?_) rfl) (AllReadyH.cons rfl (fun K hK => (fun (tE : Tk 12) => ?_) rfl) AllReadyH.nil))))
     | (have _t : Tk 1 := tC; have _m := HMa; refine wpAnyH_ready (rs := [12]) (by kernel_rfl) (by simp) ?_; refine (AllReadyH.cons rfl (fun K hK => (fun (tE : Tk 12) => ?_) rfl) AllReadyH.nil))
     | (have _t : Tk 1 := tC; have _m := HMb; refine wpAnyH_ready (rs := [11]) (by kernel_rfl) (by simp) ?_; refine (AllReadyH.cons rfl (fun K hK => (fun (tE : Tk 11) => ?_) rfl) AllReadyH.nil))
     | (have _t : Tk 1 := tC; refine wpAnyH_ready (rs := [11, 12]) (by kernel_rfl) (by simp) ?_; refine (AllReadyH.cons rfl (fun K hK => (fun (tE : Tk 11) => ?_) rfl) (AllReadyH.cons rfl (fun K hK => (fun (tE : Tk 12) => ?_) rfl) AllReadyH.nil)))
    ) <;> (go_simp; first
     | (have _t : Tk 6 := tE; clear _t tE; have HZ9 := zi (zg G).size; refine ((zg hcK) _ (zg G)).mono ?_; rintro e Wc ⟨y, z, rfl, oy, hy9, hz9, f9⟩; obtain ⟨ya, yc, rfl, _⟩ := id oy.un.reads; obtain ⟨za, zc, e9, _⟩ := id hz9.1; subst e9; have HOy := zi oy; have HRz := zi (hz9.mono9 (zg HZ9)); have HPP : Hid (∀ g, (Value.slice ya o.un.length yc).ownBlock = some g ∨ (Value.slice za (t.kyO (cR ks k, cW ks k)).length zc).ownBlock = some g → wr.heap.size ≤ g ∧ g < Wc.heap.size) := zi (fun g hg => by have h2 := zg HZ9; rcases hg with hg | hg; exact ⟨by have := hy9 g hg; omega, (oy.un.lt g hg).2⟩; exact ⟨by have := (hz9.2 g hg).1; omega, (hz9.2 g hg).2⟩); (try have HQa : Hid (∀ g, (Value.slice ya o.un.length yc).ownBlock = some g ∨ (Value.slice za (t.kyO (cR ks k, cW ks k)).length zc).ownBlock = some g → g ≠ ba) := zi (fun g hg => by have h2 := zg HRa; rcases hg with hg | hg; have := hy9 g hg; omega; have := (hz9.2 g hg).1; omega)); (try have HQb : Hid (∀ g, (Value.slice ya o.un.length yc).ownBlock = some g ∨ (Value.slice za (t.kyO (cR ks k, cW ks k)).length zc).ownBlock = some g → g ≠ bb) := zi (fun g hg => by have h2 := zg HRb; rcases hg with hg | hg; have := hy9 g hg; omega; have := (hz9.2 g hg).1; omega)); (try replace HMa := f9.hk HMa); (try replace HRa : Hid (wr.heap.size ≤ ba ∧ ba < Wc.heap.size) := zi (by have h1 := zg HRa; have h2 := f9.size; omega)); (try replace HMb := f9.hk HMb); (try replace HRb : Hid (wr.heap.size ≤ bb ∧ bb < Wc.heap.size) := zi (by have h1 := zg HRb; have h2 := f9.size; omega)); clear oy hy9 hz9 HZ9; replace G := Hid.ht G f9; clear f9 hHeld; refine hK.out _ _ ⟨(zg G).kept (zg HBS), (zg G).kept (zg HBH), (zg G).cell g2, (zg G).cell g1⟩ (fun hHeld => ?_); clear hK K; clear tC; have tC : Tk 1 := rfl; refine tk 7 ?_ rfl (by kernel_rfl) (fun _ _ _ h => h) (by rfl) ?_ (by assumption) ?_; rotate_left; (focus (intro w' hSw; go_simp <;> with_reducible rfl)); simp only [Act.put, q9]; refine tk 8 ?_ rfl (by kernel_rfl) (fun _ _ _ h => h) (by rfl) ?_ (by assumption) ?_; rotate_left; (focus (intro w' hSw; go_simp <;> with_reducible rfl)); simp only [Act.put, q9]; refine tk 9 ?_ rfl (by kernel_rfl) (fun _ _ _ h => h) (by rfl) ?_ (by assumption) ?_; rotate_left; (focus (intro w' hSw; go_simp <;> with_reducible rfl)); simp only [Act.put, q9]; refine tk 10 ?_ rfl (by kernel_rfl) (fun _ _ _ h => h) (by rfl) ?_ (by assumption) ?_; rotate_left; (focus (intro w' hSw; go_simp <;> with_reducible rfl)); simp only [Act.put, q9])
     | (have _t : Tk 11 := tE; clear _t tE; have n9 := zn Wc (.cells zSS 40); have f9 := (Ext.refl Wc).alloc (.cells zSS 40); have l9 := (zg G).size; obtain ⟨ba, hb9⟩ : ∃ b, b = Wc.heap.size := ⟨_, rfl⟩; (try have HQa : Hid (∀ g, (Value.slice ya o.un.length yc).ownBlock = some g ∨ (Value.slice za (t.kyO (cR ks k, cW ks k)).length zc).ownBlock = some g → g ≠ ba) := zi (fun g hg => by have h1 := (zg HPP) g hg; omega)); (try have HAB : Hid (ba ≠ bb) := zi (by have h3 := zg HRb; omega)); rw [← hb9] at n9 l9 ⊢; clear hb9; generalize Wc.alloc (.cells zSS 40) = Wc at n9 f9 ⊢; have HRa : Hid (wr.heap.size ≤ ba ∧ ba < Wc.heap.size) := zi ⟨l9, zt n9⟩; (try replace HMb := f9.hk HMb); (try replace HRb : Hid (wr.heap.size ≤ bb ∧ bb < Wc.heap.size) := zi (by have h1 := zg HRb; have h2 := f9.size; omega)); (try replace HOy := zi ((zg HOy).ext f9)); (try replace HRz := zi ((zg HRz).ext f9)); (try replace HPP : Hid (∀ g, (Value.slice ya o.un.length yc).ownBlock = some g ∨ (Value.slice za (t.kyO (cR ks k, cW ks k)).length zc).ownBlock = some g → wr.heap.size ≤ g ∧ g < Wc.heap.size) := zi (fun g hg => by have h1 := (zg HPP) g hg; have h2 := f9.size; omega)); have HMa := zi n9; clear n9 l9; replace G := Hid.ht G f9; clear f9 hHeld; refine hK.out _ _ ⟨(zg G).kept (zg HBS), (zg G).kept (zg HBH), (zg G).cell g2, (zg G).cell g1⟩ (fun hHeld => ?_); clear hK K)
     | (have _t : Tk 12 := tE; clear _t tE; have n9 := zn Wc (.cells zH2 41); have f9 := (Ext.refl Wc).alloc (.cells zH2 41); have l9 := (zg G).size; obtain ⟨bb, hb9⟩ : ∃ b, b = Wc.heap.size := ⟨_, rfl⟩; (try have HQb : Hid (∀ g, (Value.slice ya o.un.length yc).ownBlock = some g ∨ (Value.slice za (t.kyO (cR ks k, cW ks k)).length zc).ownBlock = some g → g ≠ bb) := zi (fun g hg => by have h1 := (zg HPP) g hg; omega)); (try have HAB : Hid (ba ≠ bb) := zi (by have h3 := zg HRa; omega)); rw [← hb9] at n9 l9 ⊢; clear hb9; generalize Wc.alloc (.cells zH2 41) = Wc at n9 f9 ⊢; have HRb : Hid (wr.heap.size ≤ bb ∧ bb < Wc.heap.size) := zi ⟨l9, zt n9⟩; (try replace HMa := f9.hk HMa); (try replace HRa : Hid (wr.heap.size ≤ ba ∧ ba < Wc.heap.size) := zi (by have h1 := zg HRa; have h2 := f9.size; omega)); (try replace HOy := zi ((zg HOy).ext f9)); (try replace HRz := zi ((zg HRz).ext f9)); (try replace HPP : Hid (∀ g, (Value.slice ya o.un.length yc).ownBlock = some g ∨ (Value.slice za (t.kyO (cR ks k, cW ks k)).length zc).ownBlock = some g → wr.heap.size ≤ g ∧ g < Wc.heap.size) := zi (fun g hg => by have h1 := (zg HPP) g hg; have h2 := f9.size; omega)); have HMb := zi n9; clear n9 l9; replace G := Hid.ht G f9; clear f9 hHeld; refine hK.out _ _ ⟨(zg G).kept (zg HBS), (zg G).kept (zg HBH), (zg G).cell g2, (zg G).cell g1⟩ (fun hHeld => ?_); clear hK K)
    )))
    all_goals
     refine rdy 13 (by kernel_rfl) rfl (fun K hK => ?_)
     refine zad 40 _ _ rfl rfl ba rfl _ _ (ze (t.ln4 o) (.slice ya o.un.length yc) (.slice ha s.kh.length hc) (.slice pa s.pn pc) (.slice qa s.qn qc) (.slice la s.ln lc) (.slice da s.dn dc)) rfl (zg HMa) zap rfl (by simp [Value.oneCell', ze]) ?_
     intro Y1 hb9 hf9
     have HFa := zi hf9; replace HMb := zi (hf9.kept (zg HMb) (fun e => zg HAB e.symm)); replace HMa := zi hb9
     replace G := zi (hf9.ext (zg G) (fun q9 h9 => by have h1 := zg HRa; omega)); clear hb9 hf9 hHeld
     refine hK.out _ _ ⟨(zg G).kept (zg HBS), (zg G).kept (zg HBH), (zg G).cell g2, (zg G).cell g1⟩ (fun hHeld => ?_)
     clear hK K
     refine rdy 14 (by kernel_rfl) rfl (fun K hK => ?_)
     refine zad 41 _ _ rfl rfl bb rfl _ _ #[.int .i64 cap, .slice va hn vc] rfl (zg HMb) zaB rfl (by simp [Value.oneCell']) ?_
     intro Y2 hb9 hf9
     have HFb : Hid (Fr (fun q => q = ba ∨ q = bb) Wc Y2) := zi (((zg HFa).mono (fun q hq => .inl hq)).tr (hf9.mono (fun q hq => .inr hq))); replace HMa := zi (hf9.kept (zg HMa) (zg HAB)); replace HMb := zi hb9
     replace G := zi (hf9.ext (zg G) (fun q9 h9 => by have h1 := zg HRb; omega)); clear hb9 hf9 hHeld
     refine hK.out _ _ ⟨(zg G).kept (zg HBS), (zg G).kept (zg HBH), (zg G).cell g2, (zg G).cell g1⟩ (fun hHeld => ?_)
     clear hK K
     refine tk 15 ?_ rfl (by kernel_rfl) (fun _ _ _ h => h) (by rfl) ?_ (by assumption) ?_
     rotate_left
     ·intro w' hSw; go_simp <;> with_reducible rfl
     simp only [Act.put, q9]
     refine wpAnyH_done (by kernel_rfl) ?_ _
     go_wp2
     go_meet
     exact ⟨ba, bb, ya, yc, za, zc, rfl, rfl, rfl, HMa, HMb, zi ((zg HOy).fr (zg HFb) (fun g hg e => by have h1 := (zg HFO) _ _ g hg; have h2 := zg HRa; have h3 := zg HRb; have h9 := zg HSZ; rcases h1 with h1 | h1; omega; have h4 := (zg HQa) g (.inl h1); have h5 := (zg HQb) g (.inl h1); omega)), zi ((zg HRz).fr (zg HFb) (fun g hg e => by have h4 := (zg HQa) g (.inr hg); have h5 := (zg HQb) g (.inr hg); omega)), zi (fun g hg => ((zg HPP) g (.inl hg)).1), zi ⟨(zg HRa).1, (zg HRb).1⟩, G⟩
   case rest =>
    rename World => wq
    obtain ⟨ba, bb, ya, yc, za, zc, rfl, rfl, rfl, HMa, HMb, HOy, HRz, HLy, HLG, HEq⟩ := hcut
    have HBSq := zi ((zg HEq).kept (zg HBS))
    have HBHq := zi ((zg HEq).kept (zg HBH))
    have HOTq := zi ((zg HEq).owns (zg HOT))
    have HOTl := zi (zg HOT).lt
    clear HBS HBH hcK
    go_upto_region 8 with (first
     | (refine zm rfl 40 _ rfl ba rfl _ _ _ _ (zg HMa) Tryz.underlying40 rfl zap ?_)
     | (refine zy rfl 40 _ _ rfl rfl (w.heap.size) rfl _ _ (ze (t.ln4 o) (.slice ya o.un.length yc) (.slice ha s.kh.length hc) (.slice pa s.pn pc) (.slice qa s.qn qc) (.slice la s.ln lc) (.slice da s.dn dc)) rfl (zg HBSq) zap rfl (by simp [Value.oneCell', ze]) ?_; intro Z1 hy hf; have HS1 := zi hy; have HF1 := zi hf; have HM1 := zi (hf.kept (zg HMb) (by have h1 := zg HLG; have h2 := zg HSZ; omega)); clear hy hf)
     | (refine zm rfl 41 _ rfl bb rfl _ _ _ _ (zg HM1) Tryz.underlying41 rfl zaB ?_)
     | (refine zy rfl 41 _ _ rfl rfl (w.heap.size + 1) rfl _ _ #[.int .i64 cap, .slice va hn vc] rfl ((zg HF1).kept (zg HBHq) (by omega)) zaB rfl (by simp [Value.oneCell']) ?_; intro Z2 hy hf; have HS2 := zi hy; have HF2 : Hid (Fr (fun q => q = w.heap.size ∨ q = w.heap.size + 1) wq Z2) := zi (((zg HF1).mono (fun q hq => .inl hq)).tr (hf.mono (fun q hq => .inr hq))); replace HS1 := zi (hf.kept (zg HS1) (by omega)); clear hy hf))
    have HOz := zi ((zg HOy).fr (zg HF2) (fun g hg e => by have h1 := (zg HFO) ya yc g hg; have h2 := zg HSZ; rcases h1 with h1 | h1; omega; have h3 := (zg HLy) g h1; omega))
    have HRw := zi ((zg HRz).fr (zg HF2) (fun g hg e => by have h1 := ((zg HRz).2 g hg).1; have h2 := zg HSZ; omega))
    have HOw := zi ((zg HF2).owns (zg HOTq) (fun g hg e => by have h1 := ((zg HOTl) g hg).1; omega))
    have HEw := zi ((zg HF2).ext ((zg HEX).trans (zg HEq)) (fun q hq => by omega))
    have HZw : Hid (w.heap.size + 5 ≤ Z2.heap.size) := zi (by have h1 := zg HSZ; have h2 := (zg HEq).size; have h3 := (zg HF2).size; omega)
    have HZZ := zi (And.intro ((zg HF2).kept ((zg HEq).kept (zg HBZ).1) (by omega)) ((zg HF2).kept ((zg HEq).kept (zg HBZ).2) (by omega)))
    have HOTg : Hid (∀ g, (Value.slice oa bs.length oc).ownBlock = some g → w.heap.size + 4 ≤ g ∧ g < wr.heap.size) := HOTl
    clear HOy HRz HOTq HF2 HF1 HM1 HMa HMb HBSq HBHq HOT HEX HEq HBZ HOTl
    go_wp2_with (at_builtin; go_must (refine zao rfl _ _ 25 rfl (w.heap.size + 4) 5 iu (.int .u8 0) 1 1 Tryz.underlying25 hiu hu0 hu1 hu2 rfl (by decide) _ _ _ rfl (zg HOw) _ _ _ rfl (Src.ints (zg HRw).1) (by unfold maxLen; omega) (by omega) (by have := zg HZw; omega) ?_); intro v5 w5 o5 G5 _; have HO5 := zi o5; have HG5 := zi G5; clear o5 G5)
    obtain ⟨a5, c5, rfl⟩ := zaE (zg HO5)
    have F5 : Fr (fun g => (Value.slice oa bs.length oc).ownBlock = some g) Z2 w5 := (Fr.refl _ Z2).grown (zg HG5) (fun _ h => h)
    have nb : ∀ j, j < 4 → ¬ (fun g => (Value.slice oa bs.length oc).ownBlock = some g) (w.heap.size + j) := fun j hj e => by have h1 := (zg HOTg) _ e; omega
    have HN : Hid (KsI w b ks s (k + 1) (.slice ha s.kh.length hc) (.slice pa s.pn pc) (.slice qa s.qn qc) (.slice la s.ln lc) (.slice da s.dn dc) cap va hn vc ya yc a5 c5 w5) := zi (by
     have e5 := F5.ext (zg HEw) (fun q hq => by have h1 := (zg HOTg) q hq; omega)
     have s5 := F5.size
     have z5 := zg HZw
     refine ⟨?_, F5.kept (zg HS2) (nb 1 (by omega)), F5.kept (zg HZZ).1 (nb 2 (by omega)), F5.kept (zg HZZ).2 (nb 3 (by omega)), ?_, ?_, e5, by omega⟩
     ·rw [zg HN1]; exact F5.kept (zg HS1) (nb 0 (by omega))
     ·rw [zg HN1]; exact (zg HOz).fr F5 (fun g hg e => by
       have h1 := (zg HOTg) g e
       rcases (zg HFO) ya yc g hg with h2 | h2
       ·omega
       ·have h3 := (zg HLy) g h2; omega)
     ·rw [zg HN2, List.map_append, List.length_append]; exact zg HO5)
    have HUN : Hid (∀ g, (Value.slice ya (SS.kyS ks s (k + 1)).un yc).ownBlock = some g → (Value.slice ua s.un uc).ownBlock = some g ∨ w.heap.size + 5 ≤ g) := zi (fun g hg => by rw [zg HN1] at hg; have h1 := (zg HLy) g hg; have h2 := zg HSZ; exact .inr (by omega))
    clear F5 nb HO5 HG5 HS1 HS2 HOz HOw HRw HEw HZw HZZ HOTg HLy HLG HFO
    go_wp2
    go_roundw
    case rel => exact ⟨k + 1, ya, yc, a5, c5, by omega, by rw [zg HN2, List.length_append], by go_num, HN, HUN⟩
    case measure => simp [intOf]; omega
  ·have e : k = ks.length := by omega
   subst e
   obtain ⟨x, hx⟩ : ∃ x, x = SS.kyS ks s ks.length := ⟨_, rfl⟩
   obtain ⟨bs, hbs⟩ : ∃ bs, bs = SS.kyB ks s ks.length := ⟨_, rfl⟩
   obtain ⟨h1, h2, h3, h4, h5, h6, h7, h8⟩ := zg HIk
   rw [← hx] at h1 h5 HU
   rw [← hbs] at h6
   have HXX := zi (And.intro hx hbs)
   have HBS := zi h1
   have HBH := zi h2
   have HZS := zi h3
   have HZH := zi h4
   have HOx := zi h5
   have HOT := zi h6
   have HEX := zi h7
   have HSZ := zi h8
   clear h1 h2 h3 h4 h5 h6 h7 h8 HIk hx hbs
   go_upto_region 9 with fail
   refine wp_region_held_drew (S := fun W => W.heap[w.heap.size]? = some (.cells (ze x (.slice xa x.un xc) (.slice ha s.kh.length hc) (.slice pa s.pn pc) (.slice qa s.qn qc) (.slice la s.ln lc) (.slice da s.dn dc)) 40 (0, 0)) ∧ W.heap[w.heap.size + 1]? = some (.cells #[.int .i64 cap, .slice va hn vc] 41 (0, 0))) (by kernel_rfl) ⟨zg HBS, zg HBH⟩ (fun hHeld => ?_)
   refine tk 0 (.agg (ze x (.slice xa x.un xc) (.slice ha s.kh.length hc) (.slice pa s.pn pc) (.slice qa s.qn qc) (.slice la s.ln lc) (.slice da s.dn dc))) rfl (by kernel_rfl) (fun _ _ _ h => h) (by rfl) ?_ (by assumption) ?_
   ·intro w' hSw; exact zae 40 _ rfl (w.heap.size) rfl _ _ _ _ hSw.1 Tryz.underlying40 rfl zap
   simp only [Act.put, q9]
   refine tk 1 (.agg #[.int .i64 cap, .slice va hn vc]) rfl (by kernel_rfl) (fun _ _ _ h => h) (by rfl) ?_ (by assumption) ?_
   ·intro w' hSw; exact zae 41 _ rfl (w.heap.size + 1) rfl _ _ _ _ hSw.2 Tryz.underlying41 rfl zaB
   simp only [Act.put, q9]
   refine tk 2 ?_ rfl (by kernel_rfl) (fun _ _ _ h => h) (by rfl) ?_ (by assumption) ?_
   rotate_left
   ·intro w' hSw; go_simp <;> with_reducible rfl
   simp only [Act.put, q9]
   have G := zi ((Ext.refl wr).drew)
   generalize wr.drew = Y0 at *
   refine rdy 3 (by kernel_rfl) rfl (fun K hK => ?_)
   refine zad 40 _ _ rfl rfl (w.heap.size + 2) rfl _ _ (ze x (.slice xa x.un xc) (.slice ha s.kh.length hc) (.slice pa s.pn pc) (.slice qa s.qn qc) (.slice la s.ln lc) (.slice da s.dn dc)) rfl ((zg G).kept (zg HZS)) zap rfl (by simp [Value.oneCell', ze]) ?_
   intro Y1 hb9 hf9
   replace HZS := zi hb9
   replace HZH := zi (hf9.kept ((zg G).kept (zg HZH)) (by omega))
   have FF : Hid (Fr (fun q => q = w.heap.size + 2 ∨ q = w.heap.size + 3) wr Y1) := zi ((Fr.of_ext (zg G)).tr (hf9.mono (fun q hq => .inl hq)))
   clear hb9 hf9 hHeld
   refine hK.out _ _ ⟨(zg FF).kept (zg HBS) (by omega), (zg FF).kept (zg HBH) (by omega)⟩ (fun hHeld => ?_)
   clear hK K
   refine rdy 4 (by kernel_rfl) rfl (fun K hK => ?_)
   refine zad 41 _ _ rfl rfl (w.heap.size + 3) rfl _ _ #[.int .i64 cap, .slice va hn vc] rfl (zg HZH) zaB rfl (by simp [Value.oneCell']) ?_
   intro X hb9 hf9
   replace HZS := zi (hf9.kept (zg HZS) (by omega))
   replace HZH := zi hb9
   replace FF := zi ((zg FF).tr (hf9.mono (fun q hq => .inr hq)))
   clear hb9 hf9 hHeld
   refine hK.out _ _ ⟨(zg FF).kept (zg HBS) (by omega), (zg FF).kept (zg HBH) (by omega)⟩ (fun hHeld => ?_)
   clear hK K
   refine tk 5 ?_ rfl (by kernel_rfl) (fun _ _ _ h => h) (by rfl) ?_ (by assumption) ?_
   rotate_left
   ·intro w' hSw; go_simp <;> with_reducible rfl
   simp only [Act.put, q9]
   refine tk 6 ?_ rfl (by kernel_rfl) (fun _ _ _ h => h) (by rfl) ?_ (by assumption) ?_
   rotate_left
   ·intro w' hSw; go_simp <;> with_reducible rfl
   simp only [Act.put, q9]
   refine wpAnyH_done (by kernel_rfl) ?_ _
   go_wp2
   have vS := fun i => cell_of_row X (w.heap.size + 2) i _ _ _ (zg HZS)
   have vH := fun i => cell_of_row X (w.heap.size + 3) i _ _ _ (zg HZH)
   obtain ⟨hx, hbs⟩ := zg HXX
   clear HXX
   subst hx hbs
   exact bodyPost_ret (v := .tuple #[zaK (SS.kyS ks s ks.length) (.slice xa (SS.kyS ks s ks.length).un xc) (.slice ha s.kh.length hc) (.slice pa s.pn pc) (.slice qa s.qn qc) (.slice la s.ln lc) (.slice da s.dn dc), .agg #[.int .i64 cap, .slice va hn vc], .slice oa (SS.kyB ks s ks.length).length oc, .int .i64 0]) (by simp [results, Tryz.results30, go_sem, zaK, ze, vS, vH]) rfl ⟨xa, xc, _, rfl, (zg HOx).fr (zg FF) (fun g hg e => by
    rcases hg with hg | hg
    ·rcases (zg HU) g hg with h9 | h9
     ·have := (zg HF0) g (.inl h9); omega
     ·omega
    ·have := (zg HF0) g (.inr hg); omega), fun g hg => ((zg HU) g hg).imp id (fun h => by omega), zas ((zg FF).owns (zg HOT) (fun g hg e => by have := ((zg HOT).lt g hg).1; omega)) (by omega), (zg FF).ext (zg HEX) (fun q hq => by omega)⟩
end Go.Proofs.YtmlkpdbfnffoaaaGreatDoor
