import Derived.Test.YtgdadidppelgdaaGreatDoorContJ
import Derived.Test.YtgdadidppelgdaaGreatDoorSesCopy2
import Derived.Test.YtgdadidppelgdaaGreatDoorSesOkS2
import Derived.Test.YtgdadidppelgdaaGreatDoorSpecPaint
namespace Go.Proofs.YtgdadidppelgdaaGreatDoor
open Go.RowKit

set_option linter.unusedSimpArgs false in
set_option maxRecDepth 10000 in
set_option maxHeartbeats 8000000 in
theorem specCont_go (s : SS) (u h p q l d : Value) (w : World) (hA : SesAt w s u h p q l d) (hz : s.Sz) (hok : SesP s) (hst : s.st = true) :
    Calls Tryz.prog 16 #[sesV s u h p q l d] w fun e w' => ∃ v0 v1, e = .returned (.tuple #[v0, v1, .int .i64 0]) ∧ (sesK s.cont).R w' v0 ∧ (bytesK s.contZ).R w' v1 ∧ Ext w w' := by
  obtain ⟨i0, hi, hz0, hz1, hz2⟩ := u8_parts
  have hsq := queue_small hz hok
  have hbd := linesR_bd s.cols s.qt s.qn
  have hpl := s.paint_len_big hz.pr hz.la hz.lb hok.2.1
  have hlsz : lsz (linesR s.cols s.qt s.qn) ≤ 200000000 ∧ (linesR s.cols s.qt s.qn).length ≤ 30000000 := by omega
  have hol := hide (outR_len (linesR s.cols s.qt s.qn))
  have HOL : Hid (outL (atR (linesR s.cols s.qt s.qn)) (linesR s.cols s.qt s.qn).length = outR (linesR s.cols s.qt s.qn)) := rfl
  have hcC := hide (fun W (hW : Ext w W) => l7Copy_any s u h p q l d W (hA.ext hW) hz)
  have hcS := hide (fun W (hW : Ext w W) => specSessionOk_any s u h p q l d W (hA.ext hW) hz true (by simp [hok]))
  have hcB := hide (fun W (hW : Ext w W) => l7Block_any s u h p q l d W (hA.ext hW) hz hok.2.1)
  have hcP := hide (fun (v : Value) (W' : World) (ho : Row1At W' v s.blk.n (fun i => .string (s.blk.tx i))) => specPaint_any v (s.blk.R : Int) s.blk.C s.blk.n s.blk.tx W' ho (by have := (s.blk_lt hok.2.1).2; omega) (by have := s.blk_slen_big hz.pr hz.la hz.lb hok.2.1; omega))
  have hcR := hide (fun W (hW : Ext w W) => l7Rows_any q s.qn s.qt s.cols W (hA.qu.ext hW) (by omega) hz.qt (by omega))
  have hcO := hide (fun (v : Value) (W' : World) (hr : Row1At W' v (linesR s.cols s.qt s.qn).length (fun j => .string (atR (linesR s.cols s.qt s.qn) j))) => l7Out_any v (linesR s.cols s.qt s.qn).length (atR (linesR s.cols s.qt s.qn)) W' hr (by omega) (by rw [slen_lsz]; omega))
  rw [unhide HOL] at hcO
  have hsl : s.ln ≤ 1048576 := hz.ln
  have HST := hide hst
  have HPT : Hid (paintL s.blk.n s.blk.tx (s.blk.R : Int) s.blk.C = s.paint) := rfl
  clear hst
  unfold blV at hcP
  simp only [sesV_C] at hcC hcS hcB
  obtain ⟨ua, uc, ha, hc, pa, pc, qa, qc, la, lc, da, dc, rfl, rfl, rfl, rfl, rfl, rfl⟩ := hA.forms
  clear hA hz hok hsq hbd
  have HLZ := hide (fun j (hj : j < (linesR s.cols s.qt s.qn).length) => lsz_at (linesR s.cols s.qt s.qn) j hj)
  have HB0 : Hid (((w.alloc (.cells #[.string s.pr, .int .i64 s.cols, .int .i64 s.rows, .string s.la, .string s.lb, .string s.lc, .slice ua s.un uc, .slice ha s.kh.length hc, .bool s.kp, .bool s.nav, .slice pa s.pn pc, .int .i64 s.at9, .string s.dr, .bool s.st, .slice qa s.qn qc, .slice la s.ln lc, .slice da s.dn dc] 37)).alloc (.cells #[.string { data := #[] }, .int .i64 0, .int .i64 0, .string { data := #[] }, .string { data := #[] }, .string { data := #[] }, .slice none 0 0, .slice none 0 0, .bool false, .bool false, .slice none 0 0, .int .i64 0, .string { data := #[] }, .bool false, .slice none 0 0, .slice none 0 0, .slice none 0 0] 37)).heap[w.heap.size]? = some (.cells #[.string s.pr, .int .i64 s.cols, .int .i64 s.rows, .string s.la, .string s.lb, .string s.lc, .slice ua s.un uc, .slice ha s.kh.length hc, .bool s.kp, .bool s.nav, .slice pa s.pn pc, .int .i64 s.at9, .string s.dr, .bool s.st, .slice qa s.qn qc, .slice la s.ln lc, .slice da s.dn dc] 37 (0, 0))) := hide (((Ext.refl _).alloc _).kept (new_block w _))
  have HB1 : Hid (((w.alloc (.cells #[.string s.pr, .int .i64 s.cols, .int .i64 s.rows, .string s.la, .string s.lb, .string s.lc, .slice ua s.un uc, .slice ha s.kh.length hc, .bool s.kp, .bool s.nav, .slice pa s.pn pc, .int .i64 s.at9, .string s.dr, .bool s.st, .slice qa s.qn qc, .slice la s.ln lc, .slice da s.dn dc] 37)).alloc (.cells #[.string { data := #[] }, .int .i64 0, .int .i64 0, .string { data := #[] }, .string { data := #[] }, .string { data := #[] }, .slice none 0 0, .slice none 0 0, .bool false, .bool false, .slice none 0 0, .int .i64 0, .string { data := #[] }, .bool false, .slice none 0 0, .slice none 0 0, .slice none 0 0] 37)).heap[w.heap.size + 1]? = some (.cells #[.string { data := #[] }, .int .i64 0, .int .i64 0, .string { data := #[] }, .string { data := #[] }, .string { data := #[] }, .slice none 0 0, .slice none 0 0, .bool false, .bool false, .slice none 0 0, .int .i64 0, .string { data := #[] }, .bool false, .slice none 0 0, .slice none 0 0, .slice none 0 0] 37 (0, 0))) := hide (by have h := new_block (w.alloc (.cells #[.string s.pr, .int .i64 s.cols, .int .i64 s.rows, .string s.la, .string s.lb, .string s.lc, .slice ua s.un uc, .slice ha s.kh.length hc, .bool s.kp, .bool s.nav, .slice pa s.pn pc, .int .i64 s.at9, .string s.dr, .bool s.st, .slice qa s.qn qc, .slice la s.ln lc, .slice da s.dn dc] 37)) (.cells #[.string { data := #[] }, .int .i64 0, .int .i64 0, .string { data := #[] }, .string { data := #[] }, .string { data := #[] }, .slice none 0 0, .slice none 0 0, .bool false, .bool false, .slice none 0 0, .int .i64 0, .string { data := #[] }, .bool false, .slice none 0 0, .slice none 0 0, .slice none 0 0] 37); rw [show (w.alloc (.cells #[.string s.pr, .int .i64 s.cols, .int .i64 s.rows, .string s.la, .string s.lb, .string s.lc, .slice ua s.un uc, .slice ha s.kh.length hc, .bool s.kp, .bool s.nav, .slice pa s.pn pc, .int .i64 s.at9, .string s.dr, .bool s.st, .slice qa s.qn qc, .slice la s.ln lc, .slice da s.dn dc] 37)).heap.size = w.heap.size + 1 by simp] at h; exact h)
  have EV : Hid (Ext w ((w.alloc (.cells #[.string s.pr, .int .i64 s.cols, .int .i64 s.rows, .string s.la, .string s.lb, .string s.lc, .slice ua s.un uc, .slice ha s.kh.length hc, .bool s.kp, .bool s.nav, .slice pa s.pn pc, .int .i64 s.at9, .string s.dr, .bool s.st, .slice qa s.qn qc, .slice la s.ln lc, .slice da s.dn dc] 37)).alloc (.cells #[.string { data := #[] }, .int .i64 0, .int .i64 0, .string { data := #[] }, .string { data := #[] }, .string { data := #[] }, .slice none 0 0, .slice none 0 0, .bool false, .bool false, .slice none 0 0, .int .i64 0, .string { data := #[] }, .bool false, .slice none 0 0, .slice none 0 0, .slice none 0 0] 37))) := hide (((Ext.refl w).alloc _).alloc _)
  have ZV : Hid (((w.alloc (.cells #[.string s.pr, .int .i64 s.cols, .int .i64 s.rows, .string s.la, .string s.lb, .string s.lc, .slice ua s.un uc, .slice ha s.kh.length hc, .bool s.kp, .bool s.nav, .slice pa s.pn pc, .int .i64 s.at9, .string s.dr, .bool s.st, .slice qa s.qn qc, .slice la s.ln lc, .slice da s.dn dc] 37)).alloc (.cells #[.string { data := #[] }, .int .i64 0, .int .i64 0, .string { data := #[] }, .string { data := #[] }, .string { data := #[] }, .slice none 0 0, .slice none 0 0, .bool false, .bool false, .slice none 0 0, .int .i64 0, .string { data := #[] }, .bool false, .slice none 0 0, .slice none 0 0, .slice none 0 0] 37)).heap.size = w.heap.size + 1 + 1) := hide (by simp)
  unfold sesV at *
  go_enter Tryz.func16, Tryz.ntmps16
  go_wp2_with (refine wpList_load_blk rfl 37 _ rfl (w.heap.size) rfl _ _ _ _ (unhide HB0) Tryz.underlying37 rfl infoSes ?_)
  refine ((unhide hcC) _ (unhide EV)).mono ?_
  rintro e w1 ⟨u1, h1, p1, q1, l1, d1, rfl, hO, F1⟩
  obtain ⟨u1a, u1c, h1a, h1c, p1a, p1c, q1a, q1c, l1a, l1c, d1a, d1c, rfl, rfl, rfl, rfl, rfl, rfl⟩ := hO.reads.forms
  have E1 := hide ((unhide EV).trans F1)
  have Z1 := hide F1.size
  replace HB0 := hide (F1.kept (unhide HB0))
  replace HB1 := hide (F1.kept (unhide HB1))
  replace hO := hO.mono (b' := w.heap.size + 1 + 1) (by have := unhide ZV; omega)
  have HO := hide hO
  have HFT : Hid (∀ g, SesFoot (.slice u1a s.un u1c) (.slice h1a s.kh.length h1c) (.slice p1a s.pn p1c) (.slice q1a s.qn q1c) (.slice l1a s.ln l1c) (.slice d1a s.dn d1c) g → w.heap.size + 1 + 1 ≤ g ∧ g < w1.heap.size) := hide (fun g hg => hO.foot hg)
  clear hcC hO F1
  go_wp2_with (first
    | (refine wpList_store_blk rfl 37 _ _ rfl rfl (w1.heap.size) rfl _ _ (sesC s (.slice u1a s.un u1c) (.slice h1a s.kh.length h1c) (.slice p1a s.pn p1c) (.slice q1a s.qn q1c) (.slice l1a s.ln l1c) (.slice d1a s.dn d1c)) rfl (new_block w1 _) infoSes rfl (by simp [Value.oneCell', sesC]) ?_; intro X hx9 hf9; have HX := hide hx9; have FX := hide (hf9.ext ((Ext.refl w1).alloc _) (fun q hq => by omega)); replace HB0 := hide ((unhide FX).kept (unhide HB0)); clear hx9 hf9)
    | (refine wpList_load_blk rfl 37 _ rfl (w.heap.size) rfl _ _ _ _ (unhide HB0) Tryz.underlying37 rfl infoSes ?_))
  replace HB1 := hide ((unhide FX).kept (unhide HB1))
  replace HO := hide ((unhide HO).ext (unhide FX))
  replace E1 := hide ((unhide E1).trans (unhide FX))
  refine ((unhide hcS) X (unhide E1)).mono ?_
  rintro e w2 ⟨rfl, F2⟩
  replace HB0 := hide (F2.kept (unhide HB0))
  replace HB1 := hide (F2.kept (unhide HB1))
  replace HX := hide (F2.kept (unhide HX))
  replace HO := hide ((unhide HO).ext F2)
  replace E1 := hide ((unhide E1).trans F2)
  have hlt : Hid (w.heap.size + 1 < w1.heap.size ∧ w1.heap.size < w2.heap.size) := hide (by have h1 := unhide ZV; have h2 := unhide Z1; have h3 := lt_of_block (unhide HX); omega)
  clear F2 FX hcS EV ZV Z1
  have k13 : w2.cell? ⟨w.heap.size, 13, none⟩ = some (.bool true) := by have h9 : w2.cell? ⟨w.heap.size, 13, none⟩ = some (.bool s.st) := cells_of (unhide HB0) 13 _ rfl; rw [unhide HST] at h9; exact h9
  have k14 : w2.cell? ⟨w.heap.size, 14, none⟩ = some (.slice qa s.qn qc) := cells_of (unhide HB0) 14 _ rfl
  have k1 : w2.cell? ⟨w.heap.size, 1, none⟩ = some (.int .i64 s.cols) := cells_of (unhide HB0) 1 _ rfl
  go_wp2_with fail
  refine ((unhide hcR) w2 (unhide E1)).mono ?_
  rintro e w3 ⟨v3, rfl, o3, F3⟩
  obtain ⟨a3, c3, rfl⟩ := o3.slice
  have HR3 := hide o3
  replace HB0 := hide (F3.kept (unhide HB0))
  replace HB1 := hide (F3.kept (unhide HB1))
  replace HX := hide (F3.kept (unhide HX))
  replace HO := hide ((unhide HO).ext F3)
  replace E1 := hide ((unhide E1).trans F3)
  have z3 := F3.size
  clear o3 F3 k13 k14 k1 hcR
  have x13 : w3.cell? ⟨w1.heap.size, 13, none⟩ = some (.bool s.st) := cells_of (unhide HX) 13 _ rfl
  have f13 : ∀ i, w3.frozen? ⟨w1.heap.size, i, none⟩ = false := fun i => Lib.frozen_of_heap (unhide HX) i
  have hx13 : Hid ((w3.setCell ⟨w1.heap.size, 13, none⟩ (.bool false)).heap[w1.heap.size]? = some (.cells (sesC { s with st := false } (.slice u1a s.un u1c) (.slice h1a s.kh.length h1c) (.slice p1a s.pn p1c) (.slice q1a s.qn q1c) (.slice l1a s.ln l1c) (.slice d1a s.dn d1c)) 37 (0, 0))) := hide (set_blk2 (unhide HX) rfl)
  have hxa : Hid (((w3.setCell ⟨w1.heap.size, 13, none⟩ (.bool false)).alloc (.cells #[] 9)).heap[w1.heap.size]? = some (.cells (sesC { s with st := false } (.slice u1a s.un u1c) (.slice h1a s.kh.length h1c) (.slice p1a s.pn p1c) (.slice q1a s.qn q1c) (.slice l1a s.ln l1c) (.slice d1a s.dn d1c)) 37 (0, 0))) := hide (((Ext.refl _).alloc _).kept (unhide hx13))
  have y14 : ((w3.setCell ⟨w1.heap.size, 13, none⟩ (.bool false)).alloc (.cells #[] 9)).cell? ⟨w1.heap.size, 14, none⟩ = some (.slice q1a s.qn q1c) := cells_of (unhide hxa) 14 _ rfl
  have y14f : ((w3.setCell ⟨w1.heap.size, 13, none⟩ (.bool false)).alloc (.cells #[] 9)).frozen? ⟨w1.heap.size, 14, none⟩ = false := Lib.frozen_of_heap (unhide hxa) 14
  obtain ⟨V, hV⟩ : ∃ V, V = ((w3.setCell ⟨w1.heap.size, 13, none⟩ (.bool false)).alloc (.cells #[] 9)).setCell ⟨w1.heap.size, 14, none⟩ (.slice (some ⟨w3.heap.size, 0, none⟩) 0 0) := ⟨_, rfl⟩
  have hl := unhide hlt
  have FV : Fr (fun q => q = w1.heap.size) w3 V := by
    rw [hV]
    exact Fr.setCell (S := fun q => q = w1.heap.size) ((Fr.setCell (S := fun q => q = w1.heap.size) (Fr.refl _ _) (a := ⟨w1.heap.size, 13, none⟩) rfl _).tr (Fr.of_ext ((Ext.refl _).alloc _))) (a := ⟨w1.heap.size, 14, none⟩) rfl _
  have HXV : Hid (V.heap[w1.heap.size]? = some (.cells (sesC { s with st := false, qn := 0 } (.slice u1a s.un u1c) (.slice h1a s.kh.length h1c) (.slice p1a s.pn p1c) (.slice (some ⟨w3.heap.size, 0, none⟩) 0 0) (.slice l1a s.ln l1c) (.slice d1a s.dn d1c)) 37 (0, 0))) := hide (by rw [hV]; exact set_blk2 (unhide hxa) rfl)
  have HB0V := hide (FV.kept (unhide HB0) (by omega))
  have HB1V := hide (FV.kept (unhide HB1) (by omega))
  have HOV := hide ((unhide HO).fr FV (fun g hg e9 => by have := (unhide HFT) g hg; omega))
  have HRV := hide ((unhide HR3).fr FV (fun g hg e9 => by have := ((unhide HR3).lt g hg).1; omega))
  have EVV := hide (FV.ext (unhide E1) (fun q hq => by omega))
  have zV2 := FV.size
  have hQV : Hid (Own1 V (w.heap.size + 1 + 1) 9 (.slice (some ⟨w3.heap.size, 0, none⟩) 0 0) 0 (fun j => .string (s.qt j))) := hide (by
    have h1 : (w3.setCell ⟨w1.heap.size, 13, none⟩ (.bool false)).heap.size = w3.heap.size := by simp
    have h2 := owns_empty' (w3.setCell ⟨w1.heap.size, 13, none⟩ (.bool false)) (w.heap.size + 1 + 1) 9 1 (by omega)
    rw [h1] at h2
    refine ⟨[], ?_, fun j hj => by omega⟩
    rw [hV]
    exact owns_setCell h2 (by simp [Value.ownBlock]; omega) _)
  have HV := hide hV
  clear hV FV HX HB0 HB1 HO HR3
  go_upto_region 9 with fail
  rw [← unhide HV]
  clear HV x13 f13 y14 y14f hx13 hxa
  have HKP := hide (fun (W : World) (hW : Ext V W) => l7Keep_any { s with st := false, qn := 0 } u1a h1a p1a (some ⟨w3.heap.size, 0, none⟩) l1a d1a u1c h1c p1c 0 l1c d1c (.slice a3 (linesR s.cols s.qt s.qn).length c3) (linesR s.cols s.qt s.qn) (w.heap.size + 1 + 1) W (own1_strL ((unhide HOV).lo.ext hW)) (by have := hW.size; omega) (by show s.ln ≤ _; omega) (by omega) (fun j hj => by have := (unhide HLZ) j hj; omega)
    (fun W' f => (((unhide HRV).ext hW).fr f (fun g hg e9 => by
      have h1 := ((unhide HRV).lt g hg)
      rcases e9 with e9 | e9
      · have h2 := (unhide HFT) g (.inr (.inr (.inr (.inr (.inl e9))))); omega
      · have := hW.size; omega)).reads))
  simp only [sesV_C] at HKP
  refine wp_region_held_drew (S := fun W => W.heap[w1.heap.size]? = some (.cells (sesC { s with st := false, qn := 0 } (.slice u1a s.un u1c) (.slice h1a s.kh.length h1c) (.slice p1a s.pn p1c) (.slice (some ⟨w3.heap.size, 0, none⟩) 0 0) (.slice l1a s.ln l1c) (.slice d1a s.dn d1c)) 37 (0, 0)) ∧ W.heap[w.heap.size]? = some (.cells #[.string s.pr, .int .i64 s.cols, .int .i64 s.rows, .string s.la, .string s.lb, .string s.lc, .slice ua s.un uc, .slice ha s.kh.length hc, .bool s.kp, .bool s.nav, .slice pa s.pn pc, .int .i64 s.at9, .string s.dr, .bool s.st, .slice qa s.qn qc, .slice la s.ln lc, .slice da s.dn dc] 37 (0, 0))) (by kernel_rfl) ⟨unhide HXV, unhide HB0V⟩ (fun hHeld => ?_)
  refine wpAnyH_take (i := 0) (v := .agg (sesC { s with st := false, qn := 0 } (.slice u1a s.un u1c) (.slice h1a s.kh.length h1c) (.slice p1a s.pn p1c) (.slice (some ⟨w3.heap.size, 0, none⟩) 0 0) (.slice l1a s.ln l1c) (.slice d1a s.dn d1c))) rfl (by kernel_rfl) (by kernel_rfl) (by kernel_rfl) (fun _ _ _ h => h) (Or.inl ⟨by rfl, ?_⟩) (by assumption) ?_
  · intro w' hSw; exact yields_load_blk 37 _ rfl (w1.heap.size) rfl _ _ _ _ hSw.1 Tryz.underlying37 rfl infoSes
  simp only [Act.put, List.getElem_toArray, List.getElem_cons_succ, List.getElem_cons_zero, List.setIfInBounds_toArray, List.set_cons_zero, List.set_cons_succ]
  refine wpAnyH_take (i := 1) (v := .slice a3 (linesR s.cols s.qt s.qn).length c3) rfl (by kernel_rfl) (by kernel_rfl) (by kernel_rfl) (fun _ _ _ h => h) (Or.inl ⟨by rfl, ?_⟩) (by assumption) ?_
  · intro w' hSw; go_simp <;> with_reducible rfl
  simp only [Act.put, List.getElem_toArray, List.getElem_cons_succ, List.getElem_cons_zero, List.setIfInBounds_toArray, List.set_cons_zero, List.set_cons_succ]
  refine wpAnyH_take (i := 3) (v := .slice a3 (linesR s.cols s.qt s.qn).length c3) rfl (by kernel_rfl) (by kernel_rfl) (by kernel_rfl) (fun _ _ _ h => h) (Or.inl ⟨by rfl, ?_⟩) (by assumption) ?_
  · intro w' hSw; go_simp <;> with_reducible rfl
  simp only [Act.put, List.getElem_toArray, List.getElem_cons_succ, List.getElem_cons_zero, List.setIfInBounds_toArray, List.set_cons_zero, List.set_cons_succ]
  refine wpAnyH_take (i := 5) (v := .agg #[.string s.pr, .int .i64 s.cols, .int .i64 s.rows, .string s.la, .string s.lb, .string s.lc, .slice ua s.un uc, .slice ha s.kh.length hc, .bool s.kp, .bool s.nav, .slice pa s.pn pc, .int .i64 s.at9, .string s.dr, .bool s.st, .slice qa s.qn qc, .slice la s.ln lc, .slice da s.dn dc]) rfl (by kernel_rfl) (by kernel_rfl) (by kernel_rfl) (fun _ _ _ h => h) (Or.inl ⟨by rfl, ?_⟩) (by assumption) ?_
  · intro w' hSw; exact yields_load_blk 37 _ rfl (w.heap.size) rfl _ _ _ _ hSw.2 Tryz.underlying37 rfl infoSes
  simp only [Act.put, List.getElem_toArray, List.getElem_cons_succ, List.getElem_cons_zero, List.setIfInBounds_toArray, List.set_cons_zero, List.set_cons_succ]
  refine wpAnyH_ready (rs := [2]) (by kernel_rfl) (by simp) ?_
  refine AllReadyH.cons rfl (fun K hK => ?_) AllReadyH.nil
  go_simp
  go_wp2_with (go_at_call 45; refine ((unhide HKP) _ (Ext.refl V).drew).mono ?_; rintro e w4 ⟨ka, kc, rfl, ok4, bk4, F4⟩; have HK4 := hide ok4; have BK4 := hide bk4; have HF4 := hide ((Fr.of_ext (Ext.refl V).drew).tr F4); clear ok4 bk4 F4)
  have hb4 : Hid (∀ g, (g < w1.heap.size ∧ (Value.slice l1a s.ln l1c).ownBlock ≠ some g) ∨ (w1.heap.size ≤ g ∧ g < V.heap.size) → ¬ ((Value.slice l1a s.ln l1c).ownBlock = some g ∨ V.heap.size ≤ g)) := hide (fun g hg e9 => by
    rcases e9 with e9 | e9
    · have h2 := (unhide HFT) g (.inr (.inr (.inr (.inr (.inl e9)))))
      rcases hg with ⟨_, h3⟩ | h3
      · exact h3 e9
      · omega
    · omega)
  have hlo : Hid (∀ g, g < w.heap.size + 1 + 1 → ¬ ((Value.slice l1a s.ln l1c).ownBlock = some g ∨ V.heap.size ≤ g)) := hide (fun g hg => (unhide hb4) g (.inl ⟨by omega, fun e => by have h2 := (unhide HFT) g (.inr (.inr (.inr (.inr (.inl e))))); omega⟩))
  have HX4 := hide ((unhide HF4).kept (unhide HXV) ((unhide hb4) _ (.inr ⟨Nat.le_refl _, lt_of_block (unhide HXV)⟩)))
  have HB4 := hide ((unhide HF4).kept (unhide HB0V) ((unhide hlo) _ (by omega)))
  have HC4 := hide ((unhide HF4).kept (unhide HB1V) ((unhide hlo) _ (by omega)))
  have E4 := hide ((unhide HF4).ext (unhide EVV) (fun q hq => by
    rcases hq with hq | hq
    · have h2 := (unhide HFT) q (.inr (.inr (.inr (.inr (.inl hq))))); omega
    · have h3 : V.heap.size ≤ q := hq; have := (unhide EVV).size; omega))
  have HR4 := hide ((unhide HRV).fr (unhide HF4) (fun g hg => (unhide hb4) g (.inr ⟨by have := ((unhide HRV).lt g hg).1; omega, ((unhide HRV).lt g hg).2⟩)))
  have z4 := (unhide HF4).size
  refine hK.out _ _ ⟨unhide HX4, unhide HB4⟩ (fun hHeld => ?_)
  clear hK K
  refine wpAnyH_ready (rs := [4]) (by kernel_rfl) (by simp) ?_
  refine AllReadyH.cons rfl (fun K hK => ?_) AllReadyH.nil
  go_simp
  go_wp2_with (go_at_call 46; refine ((unhide hcO) _ _ (unhide HR4).reads).mono ?_; rintro e w5 ⟨v5, rfl, o5, F5⟩; obtain ⟨a5, c5, rfl⟩ := owns_slice o5; have HO5 := hide o5; have G5 := hide F5; clear o5 F5)
  refine hK.out _ _ ⟨(unhide G5).kept (unhide HX4), (unhide G5).kept (unhide HB4)⟩ (fun hHeld => ?_)
  clear hK K
  refine wpAnyH_ready (rs := [6]) (by kernel_rfl) (by simp) ?_
  refine AllReadyH.cons rfl (fun K hK => ?_) AllReadyH.nil
  go_simp
  go_wp2_with (go_at_call 29; refine ((unhide hcB) _ ((unhide E4).trans (unhide G5))).mono ?_; rintro e w6 ⟨v6, rfl, o6, F6⟩; have hc6 := hide ((unhide hcP) _ _ o6.reads); obtain ⟨a6, c6, rfl⟩ := o6.slice; have HO6 := hide (F6.owns (unhide HO5)); have G6 := hide ((unhide G5).trans F6); clear o6 F6)
  refine hK.out _ _ ⟨(unhide G6).kept (unhide HX4), (unhide G6).kept (unhide HB4)⟩ (fun hHeld => ?_)
  clear hK K HO5
  refine wpAnyH_ready (rs := [7]) (by kernel_rfl) (by simp) ?_
  refine AllReadyH.cons rfl (fun K hK => ?_) AllReadyH.nil
  go_simp
  go_wp2_with (go_at_call 28; refine (unhide hc6).mono ?_; rintro e w7 ⟨v7, rfl, o7, F7⟩; rw [unhide HPT] at o7; obtain ⟨a7, c7, rfl⟩ := owns_slice o7; have HO7 := hide (F7.owns (unhide HO6)); have HS7 := hide (Src.ints (ints_of_owns o7)); have z7 := F7.size; have G7 := hide ((unhide G6).trans F7); clear o7 F7)
  refine hK.out _ _ ⟨(unhide G7).kept (unhide HX4), (unhide G7).kept (unhide HB4)⟩ (fun hHeld => ?_)
  clear hK K HO6
  refine wpAnyH_ready (rs := [8]) (by kernel_rfl) (by simp) ?_
  refine AllReadyH.cons rfl (fun K hK => ?_) AllReadyH.nil
  refine wp_app _ _ 25 rfl w4.heap.size 5 i0 (.int .u8 0) 1 1 Tryz.underlying25 hi hz0 hz1 hz2 rfl (by decide) (.slice a5 (outR (linesR s.cols s.qt s.qn)).length c5) (outR (linesR s.cols s.qt s.qn)).length ((outR (linesR s.cols s.qt s.qn)).map (Value.int .u8)) rfl (unhide HO7) (.slice a7 s.paint.length c7) s.paint.length (s.paint.map (Value.int .u8)) rfl (unhide HS7) (by have := unhide hol; unfold maxLen; omega) (by have := unhide hol; omega) (by have := (unhide G7).size; omega) ?_
  intro v8 w8 o8 G8 _
  rw [← List.map_append, ← List.length_append] at o8
  have F8 := Fr.grown (S := fun q => w4.heap.size ≤ q) (Fr.of_ext (unhide G7)) G8 (fun q hq => ((unhide HO7).lt q hq).1)
  obtain ⟨a8, c8, rfl⟩ := owns_slice o8
  have HO8 := hide o8
  have HF8 := hide F8
  have x4 := lt_of_block (unhide HX4)
  have b4 := lt_of_block (unhide HC4)
  refine hK.out _ _ ⟨F8.kept (unhide HX4) (by omega), F8.kept (unhide HB4) (by omega)⟩ (fun hHeld => ?_)
  clear hK K o8 F8 G8
  refine wpAnyH_ready (rs := [9]) (by kernel_rfl) (by simp) ?_
  refine AllReadyH.cons rfl (fun K hK => ?_) AllReadyH.nil
  refine wp_store_blk 37 _ _ rfl rfl (w.heap.size + 1) rfl _ _ (sesC { s with st := false, qn := 0 } (.slice u1a s.un u1c) (.slice h1a s.kh.length h1c) (.slice p1a s.pn p1c) (.slice (some ⟨w3.heap.size, 0, none⟩) 0 0) (.slice ka (s.ln + (linesR s.cols s.qt s.qn).length) kc) (.slice d1a s.dn d1c)) rfl ((unhide HF8).kept (unhide HC4) (by omega)) infoSes rfl (by simp [Value.oneCell', sesC]) ?_
  intro Y hy9 hf9
  have HY := hide hy9
  have FY := hide hf9
  refine hK.out _ _ ⟨hf9.kept ((unhide HF8).kept (unhide HX4) (by omega)) (by omega), hf9.kept ((unhide HF8).kept (unhide HB4) (by omega)) (by omega)⟩ (fun hHeld => ?_)
  clear hK K hy9 hf9
  refine wpAnyH_take (i := 10) (v := ?_) rfl (by kernel_rfl) (by kernel_rfl) (by kernel_rfl) (fun _ _ _ h => h) (Or.inl ⟨by rfl, ?_⟩) (by assumption) ?_
  rotate_left
  · intro w' hSw; go_simp <;> with_reducible rfl
  simp only [Act.put, List.getElem_toArray, List.getElem_cons_succ, List.getElem_cons_zero, List.setIfInBounds_toArray, List.set_cons_zero, List.set_cons_succ]
  refine wpAnyH_take (i := 11) (v := ?_) rfl (by kernel_rfl) (by kernel_rfl) (by kernel_rfl) (fun _ _ _ h => h) (Or.inl ⟨by rfl, ?_⟩) (by assumption) ?_
  rotate_left
  · intro w' hSw; go_simp <;> with_reducible rfl
  simp only [Act.put, List.getElem_toArray, List.getElem_cons_succ, List.getElem_cons_zero, List.setIfInBounds_toArray, List.set_cons_zero, List.set_cons_succ]
  refine wpAnyH_done (by kernel_rfl) ?_ _
  go_wp2
  have F9 : Fr (fun q => (Value.slice l1a s.ln l1c).ownBlock = some q ∨ q = w.heap.size + 1 ∨ V.heap.size ≤ q) V Y := (((unhide HF4).mono (fun q hq => hq.elim .inl (fun h => .inr (.inr h)))).tr ((unhide HF8).mono (fun q hq => .inr (.inr (by omega))))).tr ((unhide FY).mono (fun q hq => .inr (.inl hq)))
  have hnq : ∀ g, SesFoot (.slice u1a s.un u1c) (.slice h1a s.kh.length h1c) (.slice p1a s.pn p1c) (.slice q1a s.qn q1c) (.slice l1a s.ln l1c) (.slice d1a s.dn d1c) g → (Value.slice l1a s.ln l1c).ownBlock ≠ some g → ¬ ((Value.slice l1a s.ln l1c).ownBlock = some g ∨ g = w.heap.size + 1 ∨ V.heap.size ≤ g) := fun g hg hn e9 => by
    have h2 := (unhide HFT) g hg
    rcases e9 with e9 | e9 | e9
    · exact hn e9
    · omega
    · omega
  obtain ⟨⟨_, _, _, a4, _⟩, ⟨_, _, b4', _⟩, ⟨_, c4, _⟩, _, e5⟩ := pw6 (unhide HOV).ap
  have hH := unhide HOV
  have ra : SesAt Y s.cont (.slice u1a s.un u1c) (.slice h1a s.kh.length h1c) (.slice p1a s.pn p1c) (.slice (some ⟨w3.heap.size, 0, none⟩) 0 0) (.slice ka (s.ln + (linesR s.cols s.qt s.qn).length) kc) (.slice d1a s.dn d1c) := ⟨(hH.un.fr F9 (fun g hg => hnq g (.inl hg) (fun e => a4 g hg e))).reads, ints_of_owns (F9.owns hH.kh (fun g hg => hnq g (.inr (.inl hg)) (fun e => b4' g hg e))), (hH.pa.fr F9 (fun g hg => hnq g (.inr (.inr (.inl hg))) (fun e => c4 g hg e))).reads, ((unhide hQV).fr F9 (fun g hg e9 => by
      have e0 : g = w3.heap.size := by simpa [Value.ownBlock] using hg.symm
      have e1 := ((unhide hQV).lt g hg).2
      rcases e9 with e9 | e9 | e9
      · have h2 := (unhide HFT) g (.inr (.inr (.inr (.inr (.inl e9))))); omega
      · omega
      · omega)).reads, ?_, (hH.dn.fr F9 (fun g hg => hnq g (.inr (.inr (.inr (.inr (.inr hg))))) (fun e => e5 g e hg))).reads⟩
  have v0 : Y.cell? ⟨w.heap.size + 1, 0, none⟩ = some (.string s.cont.pr) := cells_of (unhide HY) 0 _ rfl
  have v1 : Y.cell? ⟨w.heap.size + 1, 1, none⟩ = some (.int .i64 s.cont.cols) := cells_of (unhide HY) 1 _ rfl
  have v2 : Y.cell? ⟨w.heap.size + 1, 2, none⟩ = some (.int .i64 s.cont.rows) := cells_of (unhide HY) 2 _ rfl
  have v3 : Y.cell? ⟨w.heap.size + 1, 3, none⟩ = some (.string s.cont.la) := cells_of (unhide HY) 3 _ rfl
  have v4 : Y.cell? ⟨w.heap.size + 1, 4, none⟩ = some (.string s.cont.lb) := cells_of (unhide HY) 4 _ rfl
  have v5 : Y.cell? ⟨w.heap.size + 1, 5, none⟩ = some (.string s.cont.lc) := cells_of (unhide HY) 5 _ rfl
  have v6 : Y.cell? ⟨w.heap.size + 1, 6, none⟩ = some (.slice u1a s.un u1c) := cells_of (unhide HY) 6 _ rfl
  have v7 : Y.cell? ⟨w.heap.size + 1, 7, none⟩ = some (.slice h1a s.kh.length h1c) := cells_of (unhide HY) 7 _ rfl
  have v8 : Y.cell? ⟨w.heap.size + 1, 8, none⟩ = some (.bool s.cont.kp) := cells_of (unhide HY) 8 _ rfl
  have v9 : Y.cell? ⟨w.heap.size + 1, 9, none⟩ = some (.bool s.cont.nav) := cells_of (unhide HY) 9 _ rfl
  have v10 : Y.cell? ⟨w.heap.size + 1, 10, none⟩ = some (.slice p1a s.pn p1c) := cells_of (unhide HY) 10 _ rfl
  have v11 : Y.cell? ⟨w.heap.size + 1, 11, none⟩ = some (.int .i64 s.cont.at9) := cells_of (unhide HY) 11 _ rfl
  have v12 : Y.cell? ⟨w.heap.size + 1, 12, none⟩ = some (.string s.cont.dr) := cells_of (unhide HY) 12 _ rfl
  have v13 : Y.cell? ⟨w.heap.size + 1, 13, none⟩ = some (.bool s.cont.st) := cells_of (unhide HY) 13 _ rfl
  have v14 : Y.cell? ⟨w.heap.size + 1, 14, none⟩ = some (.slice (some ⟨w3.heap.size, 0, none⟩) 0 0) := cells_of (unhide HY) 14 _ rfl
  have v15 : Y.cell? ⟨w.heap.size + 1, 15, none⟩ = some (.slice ka (s.ln + (linesR s.cols s.qt s.qn).length) kc) := cells_of (unhide HY) 15 _ rfl
  have v16 : Y.cell? ⟨w.heap.size + 1, 16, none⟩ = some (.slice d1a s.dn d1c) := cells_of (unhide HY) 16 _ rfl
  refine bodyPost_ret (v := .tuple #[sesV s.cont (.slice u1a s.un u1c) (.slice h1a s.kh.length h1c) (.slice p1a s.pn p1c) (.slice (some ⟨w3.heap.size, 0, none⟩) 0 0) (.slice ka (s.ln + (linesR s.cols s.qt s.qn).length) kc) (.slice d1a s.dn d1c), .slice a8 (outR (linesR s.cols s.qt s.qn) ++ s.paint).length c8, .int .i64 0]) (by simp [results, Tryz.results16, go_sem, sesV, v0, v1, v2, v3, v4, v5, v6, v7, v8, v9, v10, v11, v12, v13, v14, v15, v16]) rfl ⟨_, _, rfl, ⟨_, _, _, _, _, _, rfl, ra⟩, ?_, (unhide FY).ext ((unhide HF8).ext (unhide E4) (fun q hq => by have := (unhide E4).size; omega)) (fun q hq => by omega)⟩
  · exact ints_of_owns ((unhide FY).owns (unhide HO8) (fun g hg e9 => by have := ((unhide HO8).lt g hg).1; omega))
  · have h1 := unhide HK4
    rw [logL_keep] at h1
    have h2 : Own1 w4 (w.heap.size + 1 + 1) 9 (.slice ka (s.ln + (linesR s.cols s.qt s.qn).length) kc) s.cont.ln (fun i => .string (s.cont.lt i)) := own_strL h1
    exact ((h2.fr (unhide HF8) (fun g hg e9 => by have := (h2.lt g hg).2; omega)).fr (unhide FY) (fun g hg e9 => by have := (h2.lt g hg).1; omega)).reads
end Go.Proofs.YtgdadidppelgdaaGreatDoor
