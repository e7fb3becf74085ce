import Derived.Test.YtgdadidppelgdaaGreatDoorEraC
import Derived.Test.YtgdadidppelgdaaGreatDoorSetL
import Derived.Test.YtgdadidppelgdaaGreatDoorSesCopy2
import Derived.Test.YtgdadidppelgdaaGreatDoorSesOkS2
import Derived.Test.YtgdadidppelgdaaGreatDoorSpecPaint
namespace Go.Proofs.YtgdadidppelgdaaGreatDoor
open Go.RowKit

set_option linter.unusedSimpArgs false in
set_option maxRecDepth 10000 in
set_option maxHeartbeats 8000000 in
theorem specPrint_no (s : SS) (bs : List Int) (ba : Option Addr) (bc : Nat) (_hby : Bytes bs) (u h p q l d : Value) (w : World) (hA : SesAt w s u h p q l d) (_hin : IntsAt w .u8 (.slice ba bs.length bc) bs) (hz : s.Sz) (hok : ¬ SesP s) :
    Calls Tryz.prog 18 #[sesV s u h p q l d, (.slice ba bs.length bc)] w fun e w' => ∃ v0 v1, e = .returned (.tuple #[v0, v1, .int .i64 1]) ∧ (sesK s).R w' v0 ∧ (bytesK []).R w' v1 ∧ Ext w w' := by
  have hcC := hide (fun W (hW : Ext w W) => l7Copy_any s u h p q l d W (hA.ext hW) hz)
  have hcS := hide (fun W (hW : Ext w W) => specSessionOk_any s u h p q l d W (hA.ext hW) hz false (by simp [hok]))
  simp only [sesV_C] at hcC hcS
  obtain ⟨ua, uc, ha, hc, pa, pc, qa, qc, la, lc, da, dc, rfl, rfl, rfl, rfl, rfl, rfl⟩ := hA.forms
  obtain ⟨M, hM⟩ : ∃ M, bs.length = M := ⟨_, rfl⟩
  have HM := hide hM
  clear hA hz hok _hin
  have HB0 : Hid (((w.alloc (.cells #[.string s.pr, .int .i64 s.cols, .int .i64 s.rows, .string s.la, .string s.lb, .string s.lc, .slice ua s.un uc, .slice ha s.kh.length hc, .bool s.kp, .bool s.nav, .slice pa s.pn pc, .int .i64 s.at9, .string s.dr, .bool s.st, .slice qa s.qn qc, .slice la s.ln lc, .slice da s.dn dc] 37)).alloc (.cells #[.string { data := #[] }, .int .i64 0, .int .i64 0, .string { data := #[] }, .string { data := #[] }, .string { data := #[] }, .slice none 0 0, .slice none 0 0, .bool false, .bool false, .slice none 0 0, .int .i64 0, .string { data := #[] }, .bool false, .slice none 0 0, .slice none 0 0, .slice none 0 0] 37)).heap[w.heap.size]? = some (.cells #[.string s.pr, .int .i64 s.cols, .int .i64 s.rows, .string s.la, .string s.lb, .string s.lc, .slice ua s.un uc, .slice ha s.kh.length hc, .bool s.kp, .bool s.nav, .slice pa s.pn pc, .int .i64 s.at9, .string s.dr, .bool s.st, .slice qa s.qn qc, .slice la s.ln lc, .slice da s.dn dc] 37 (0, 0))) := hide (((Ext.refl _).alloc _).kept (new_block w _))
  have HB1 : Hid (((w.alloc (.cells #[.string s.pr, .int .i64 s.cols, .int .i64 s.rows, .string s.la, .string s.lb, .string s.lc, .slice ua s.un uc, .slice ha s.kh.length hc, .bool s.kp, .bool s.nav, .slice pa s.pn pc, .int .i64 s.at9, .string s.dr, .bool s.st, .slice qa s.qn qc, .slice la s.ln lc, .slice da s.dn dc] 37)).alloc (.cells #[.string { data := #[] }, .int .i64 0, .int .i64 0, .string { data := #[] }, .string { data := #[] }, .string { data := #[] }, .slice none 0 0, .slice none 0 0, .bool false, .bool false, .slice none 0 0, .int .i64 0, .string { data := #[] }, .bool false, .slice none 0 0, .slice none 0 0, .slice none 0 0] 37)).heap[w.heap.size + 1]? = some (.cells #[.string { data := #[] }, .int .i64 0, .int .i64 0, .string { data := #[] }, .string { data := #[] }, .string { data := #[] }, .slice none 0 0, .slice none 0 0, .bool false, .bool false, .slice none 0 0, .int .i64 0, .string { data := #[] }, .bool false, .slice none 0 0, .slice none 0 0, .slice none 0 0] 37 (0, 0))) := hide (by have h := new_block (w.alloc (.cells #[.string s.pr, .int .i64 s.cols, .int .i64 s.rows, .string s.la, .string s.lb, .string s.lc, .slice ua s.un uc, .slice ha s.kh.length hc, .bool s.kp, .bool s.nav, .slice pa s.pn pc, .int .i64 s.at9, .string s.dr, .bool s.st, .slice qa s.qn qc, .slice la s.ln lc, .slice da s.dn dc] 37)) (.cells #[.string { data := #[] }, .int .i64 0, .int .i64 0, .string { data := #[] }, .string { data := #[] }, .string { data := #[] }, .slice none 0 0, .slice none 0 0, .bool false, .bool false, .slice none 0 0, .int .i64 0, .string { data := #[] }, .bool false, .slice none 0 0, .slice none 0 0, .slice none 0 0] 37); rw [show (w.alloc (.cells #[.string s.pr, .int .i64 s.cols, .int .i64 s.rows, .string s.la, .string s.lb, .string s.lc, .slice ua s.un uc, .slice ha s.kh.length hc, .bool s.kp, .bool s.nav, .slice pa s.pn pc, .int .i64 s.at9, .string s.dr, .bool s.st, .slice qa s.qn qc, .slice la s.ln lc, .slice da s.dn dc] 37)).heap.size = w.heap.size + 1 by simp] at h; exact h)
  have EV : Hid (Ext w ((w.alloc (.cells #[.string s.pr, .int .i64 s.cols, .int .i64 s.rows, .string s.la, .string s.lb, .string s.lc, .slice ua s.un uc, .slice ha s.kh.length hc, .bool s.kp, .bool s.nav, .slice pa s.pn pc, .int .i64 s.at9, .string s.dr, .bool s.st, .slice qa s.qn qc, .slice la s.ln lc, .slice da s.dn dc] 37)).alloc (.cells #[.string { data := #[] }, .int .i64 0, .int .i64 0, .string { data := #[] }, .string { data := #[] }, .string { data := #[] }, .slice none 0 0, .slice none 0 0, .bool false, .bool false, .slice none 0 0, .int .i64 0, .string { data := #[] }, .bool false, .slice none 0 0, .slice none 0 0, .slice none 0 0] 37))) := hide (((Ext.refl w).alloc _).alloc _)
  have ZV : Hid (((w.alloc (.cells #[.string s.pr, .int .i64 s.cols, .int .i64 s.rows, .string s.la, .string s.lb, .string s.lc, .slice ua s.un uc, .slice ha s.kh.length hc, .bool s.kp, .bool s.nav, .slice pa s.pn pc, .int .i64 s.at9, .string s.dr, .bool s.st, .slice qa s.qn qc, .slice la s.ln lc, .slice da s.dn dc] 37)).alloc (.cells #[.string { data := #[] }, .int .i64 0, .int .i64 0, .string { data := #[] }, .string { data := #[] }, .string { data := #[] }, .slice none 0 0, .slice none 0 0, .bool false, .bool false, .slice none 0 0, .int .i64 0, .string { data := #[] }, .bool false, .slice none 0 0, .slice none 0 0, .slice none 0 0] 37)).heap.size = w.heap.size + 1 + 1) := hide (by simp)
  unfold sesV at *
  rw [hM]
  clear hM
  go_enter Tryz.func18, Tryz.ntmps18
  go_wp2_with (refine wpList_load_blk rfl 37 _ rfl (w.heap.size) rfl _ _ _ _ (unhide HB0) Tryz.underlying37 rfl infoSes ?_)
  refine ((unhide hcC) _ (unhide EV)).mono ?_
  rintro e w1 ⟨u1, h1, p1, q1, l1, d1, rfl, hO, F1⟩
  obtain ⟨u1a, u1c, h1a, h1c, p1a, p1c, q1a, q1c, l1a, l1c, d1a, d1c, rfl, rfl, rfl, rfl, rfl, rfl⟩ := hO.reads.forms
  have E1 := hide ((unhide EV).trans F1)
  have Z1 := hide F1.size
  replace HB0 := hide (F1.kept (unhide HB0))
  replace HB1 := hide (F1.kept (unhide HB1))
  replace hO := hO.mono (b' := w.heap.size + 1 + 1) (by have := unhide ZV; omega)
  have HO := hide hO
  have HFT : Hid (∀ g, SesFoot (.slice u1a s.un u1c) (.slice h1a s.kh.length h1c) (.slice p1a s.pn p1c) (.slice q1a s.qn q1c) (.slice l1a s.ln l1c) (.slice d1a s.dn d1c) g → w.heap.size + 1 + 1 ≤ g ∧ g < w1.heap.size) := hide (fun g hg => hO.foot hg)
  clear hcC hO F1
  go_wp2_with (first
    | (refine wpList_store_blk rfl 37 _ _ rfl rfl (w1.heap.size) rfl _ _ (sesC s (.slice u1a s.un u1c) (.slice h1a s.kh.length h1c) (.slice p1a s.pn p1c) (.slice q1a s.qn q1c) (.slice l1a s.ln l1c) (.slice d1a s.dn d1c)) rfl (new_block w1 _) infoSes rfl (by simp [Value.oneCell', sesC]) ?_; intro X hx9 hf9; have HX := hide hx9; have FX := hide (hf9.ext ((Ext.refl w1).alloc _) (fun q hq => by omega)); replace HB0 := hide ((unhide FX).kept (unhide HB0)); have HB0a := hide (((Ext.refl X).alloc (.cells #[] 5)).kept (unhide HB0)); clear hx9 hf9)
    | (refine wpList_load_blk rfl 37 _ rfl (w.heap.size) rfl _ _ _ _ (unhide HB0a) Tryz.underlying37 rfl infoSes ?_))
  replace HB1 := hide ((unhide FX).kept (unhide HB1))
  replace HO := hide ((unhide HO).ext (unhide FX))
  replace E1 := hide ((unhide E1).trans (unhide FX))
  have hxz : w1.heap.size < X.heap.size := lt_of_block (unhide HX)
  refine ((unhide hcS) _ ((unhide E1).alloc _)).mono ?_
  rintro e w2 ⟨rfl, F20⟩
  have F2 : Ext X w2 := ((Ext.refl X).alloc _).trans F20
  replace HB0 := hide (F2.kept (unhide HB0))
  replace HB1 := hide (F2.kept (unhide HB1))
  replace HX := hide (F2.kept (unhide HX))
  replace HO := hide ((unhide HO).ext F2)
  replace E1 := hide ((unhide E1).trans F2)
  have z2 := F2.size
  have hlt : Hid (w.heap.size + 1 < w1.heap.size ∧ w1.heap.size < w2.heap.size) := hide (by have h1 := unhide ZV; have h2 := unhide Z1; omega)
  clear F2 F20 FX hcS EV ZV Z1 HB0a
  go_wp2_with (first
    | (refine wpList_load_blk rfl 37 _ rfl (w1.heap.size) rfl _ _ _ _ (unhide HX) Tryz.underlying37 rfl infoSes ?_)
    | (refine wpList_store_blk rfl 37 _ _ rfl rfl (w.heap.size + 1) rfl _ _ (sesC s (.slice u1a s.un u1c) (.slice h1a s.kh.length h1c) (.slice p1a s.pn p1c) (.slice q1a s.qn q1c) (.slice l1a s.ln l1c) (.slice d1a s.dn d1c)) rfl (unhide HB1) infoSes rfl (by simp [Value.oneCell', sesC]) ?_; intro Y hy9 hf9; have HY := hide hy9; have FY := hide hf9; clear hy9 hf9))
  have v0 : Y.cell? ⟨w.heap.size + 1, 0, none⟩ = some (.string s.pr) := cells_of (unhide HY) 0 _ rfl
  have v1 : Y.cell? ⟨w.heap.size + 1, 1, none⟩ = some (.int .i64 s.cols) := cells_of (unhide HY) 1 _ rfl
  have v2 : Y.cell? ⟨w.heap.size + 1, 2, none⟩ = some (.int .i64 s.rows) := cells_of (unhide HY) 2 _ rfl
  have v3 : Y.cell? ⟨w.heap.size + 1, 3, none⟩ = some (.string s.la) := cells_of (unhide HY) 3 _ rfl
  have v4 : Y.cell? ⟨w.heap.size + 1, 4, none⟩ = some (.string s.lb) := cells_of (unhide HY) 4 _ rfl
  have v5 : Y.cell? ⟨w.heap.size + 1, 5, none⟩ = some (.string s.lc) := cells_of (unhide HY) 5 _ rfl
  have v6 : Y.cell? ⟨w.heap.size + 1, 6, none⟩ = some (.slice u1a s.un u1c) := cells_of (unhide HY) 6 _ rfl
  have v7 : Y.cell? ⟨w.heap.size + 1, 7, none⟩ = some (.slice h1a s.kh.length h1c) := cells_of (unhide HY) 7 _ rfl
  have v8 : Y.cell? ⟨w.heap.size + 1, 8, none⟩ = some (.bool s.kp) := cells_of (unhide HY) 8 _ rfl
  have v9 : Y.cell? ⟨w.heap.size + 1, 9, none⟩ = some (.bool s.nav) := cells_of (unhide HY) 9 _ rfl
  have v10 : Y.cell? ⟨w.heap.size + 1, 10, none⟩ = some (.slice p1a s.pn p1c) := cells_of (unhide HY) 10 _ rfl
  have v11 : Y.cell? ⟨w.heap.size + 1, 11, none⟩ = some (.int .i64 s.at9) := cells_of (unhide HY) 11 _ rfl
  have v12 : Y.cell? ⟨w.heap.size + 1, 12, none⟩ = some (.string s.dr) := cells_of (unhide HY) 12 _ rfl
  have v13 : Y.cell? ⟨w.heap.size + 1, 13, none⟩ = some (.bool s.st) := cells_of (unhide HY) 13 _ rfl
  have v14 : Y.cell? ⟨w.heap.size + 1, 14, none⟩ = some (.slice q1a s.qn q1c) := cells_of (unhide HY) 14 _ rfl
  have v15 : Y.cell? ⟨w.heap.size + 1, 15, none⟩ = some (.slice l1a s.ln l1c) := cells_of (unhide HY) 15 _ rfl
  have v16 : Y.cell? ⟨w.heap.size + 1, 16, none⟩ = some (.slice d1a s.dn d1c) := cells_of (unhide HY) 16 _ rfl
  have hl := unhide hlt
  refine bodyPost_ret (v := .tuple #[sesV s (.slice u1a s.un u1c) (.slice h1a s.kh.length h1c) (.slice p1a s.pn p1c) (.slice q1a s.qn q1c) (.slice l1a s.ln l1c) (.slice d1a s.dn d1c), (.slice (some ⟨X.heap.size, 0, none⟩) 0 0), .int .i64 1]) (by simp [results, Tryz.results18, go_sem, sesV, v0, v1, v2, v3, v4, v5, v6, v7, v8, v9, v10, v11, v12, v13, v14, v15, v16]) rfl ⟨_, _, rfl, ⟨_, _, _, _, _, _, rfl, ((unhide HO).fr (unhide FY) (fun g hg e9 => by have := (unhide HFT) g hg; omega)).reads⟩, ⟨some ⟨X.heap.size, 0, none⟩, 0, rfl, by simp, fun h0 => by simp at h0⟩, (unhide FY).ext (unhide E1) (fun q hq => by omega)⟩
set_option linter.unusedSimpArgs false in
set_option maxRecDepth 10000 in
set_option maxHeartbeats 8000000 in
theorem specPrint_long (s : SS) (bs : List Int) (ba : Option Addr) (bc : Nat) (_hby : Bytes bs) (u h p q l d : Value) (w : World) (hA : SesAt w s u h p q l d) (_hin : IntsAt w .u8 (.slice ba bs.length bc) bs) (hz : s.Sz) (hok : SesP s) (hlg : 5000 < bs.length) :
    Calls Tryz.prog 18 #[sesV s u h p q l d, (.slice ba bs.length bc)] w fun e w' => ∃ v0 v1, e = .returned (.tuple #[v0, v1, .int .i64 2]) ∧ (sesK s).R w' v0 ∧ (bytesK []).R w' v1 ∧ Ext w w' := by
  have hcC := hide (fun W (hW : Ext w W) => l7Copy_any s u h p q l d W (hA.ext hW) hz)
  have hcS := hide (fun W (hW : Ext w W) => specSessionOk_any s u h p q l d W (hA.ext hW) hz true (by simp [hok]))
  simp only [sesV_C] at hcC hcS
  obtain ⟨ua, uc, ha, hc, pa, pc, qa, qc, la, lc, da, dc, rfl, rfl, rfl, rfl, rfl, rfl⟩ := hA.forms
  obtain ⟨M, hM⟩ : ∃ M, bs.length = M := ⟨_, rfl⟩
  have HM := hide hM
  clear hA hz hok _hin
  have HB0 : Hid (((w.alloc (.cells #[.string s.pr, .int .i64 s.cols, .int .i64 s.rows, .string s.la, .string s.lb, .string s.lc, .slice ua s.un uc, .slice ha s.kh.length hc, .bool s.kp, .bool s.nav, .slice pa s.pn pc, .int .i64 s.at9, .string s.dr, .bool s.st, .slice qa s.qn qc, .slice la s.ln lc, .slice da s.dn dc] 37)).alloc (.cells #[.string { data := #[] }, .int .i64 0, .int .i64 0, .string { data := #[] }, .string { data := #[] }, .string { data := #[] }, .slice none 0 0, .slice none 0 0, .bool false, .bool false, .slice none 0 0, .int .i64 0, .string { data := #[] }, .bool false, .slice none 0 0, .slice none 0 0, .slice none 0 0] 37)).heap[w.heap.size]? = some (.cells #[.string s.pr, .int .i64 s.cols, .int .i64 s.rows, .string s.la, .string s.lb, .string s.lc, .slice ua s.un uc, .slice ha s.kh.length hc, .bool s.kp, .bool s.nav, .slice pa s.pn pc, .int .i64 s.at9, .string s.dr, .bool s.st, .slice qa s.qn qc, .slice la s.ln lc, .slice da s.dn dc] 37 (0, 0))) := hide (((Ext.refl _).alloc _).kept (new_block w _))
  have HB1 : Hid (((w.alloc (.cells #[.string s.pr, .int .i64 s.cols, .int .i64 s.rows, .string s.la, .string s.lb, .string s.lc, .slice ua s.un uc, .slice ha s.kh.length hc, .bool s.kp, .bool s.nav, .slice pa s.pn pc, .int .i64 s.at9, .string s.dr, .bool s.st, .slice qa s.qn qc, .slice la s.ln lc, .slice da s.dn dc] 37)).alloc (.cells #[.string { data := #[] }, .int .i64 0, .int .i64 0, .string { data := #[] }, .string { data := #[] }, .string { data := #[] }, .slice none 0 0, .slice none 0 0, .bool false, .bool false, .slice none 0 0, .int .i64 0, .string { data := #[] }, .bool false, .slice none 0 0, .slice none 0 0, .slice none 0 0] 37)).heap[w.heap.size + 1]? = some (.cells #[.string { data := #[] }, .int .i64 0, .int .i64 0, .string { data := #[] }, .string { data := #[] }, .string { data := #[] }, .slice none 0 0, .slice none 0 0, .bool false, .bool false, .slice none 0 0, .int .i64 0, .string { data := #[] }, .bool false, .slice none 0 0, .slice none 0 0, .slice none 0 0] 37 (0, 0))) := hide (by have h := new_block (w.alloc (.cells #[.string s.pr, .int .i64 s.cols, .int .i64 s.rows, .string s.la, .string s.lb, .string s.lc, .slice ua s.un uc, .slice ha s.kh.length hc, .bool s.kp, .bool s.nav, .slice pa s.pn pc, .int .i64 s.at9, .string s.dr, .bool s.st, .slice qa s.qn qc, .slice la s.ln lc, .slice da s.dn dc] 37)) (.cells #[.string { data := #[] }, .int .i64 0, .int .i64 0, .string { data := #[] }, .string { data := #[] }, .string { data := #[] }, .slice none 0 0, .slice none 0 0, .bool false, .bool false, .slice none 0 0, .int .i64 0, .string { data := #[] }, .bool false, .slice none 0 0, .slice none 0 0, .slice none 0 0] 37); rw [show (w.alloc (.cells #[.string s.pr, .int .i64 s.cols, .int .i64 s.rows, .string s.la, .string s.lb, .string s.lc, .slice ua s.un uc, .slice ha s.kh.length hc, .bool s.kp, .bool s.nav, .slice pa s.pn pc, .int .i64 s.at9, .string s.dr, .bool s.st, .slice qa s.qn qc, .slice la s.ln lc, .slice da s.dn dc] 37)).heap.size = w.heap.size + 1 by simp] at h; exact h)
  have EV : Hid (Ext w ((w.alloc (.cells #[.string s.pr, .int .i64 s.cols, .int .i64 s.rows, .string s.la, .string s.lb, .string s.lc, .slice ua s.un uc, .slice ha s.kh.length hc, .bool s.kp, .bool s.nav, .slice pa s.pn pc, .int .i64 s.at9, .string s.dr, .bool s.st, .slice qa s.qn qc, .slice la s.ln lc, .slice da s.dn dc] 37)).alloc (.cells #[.string { data := #[] }, .int .i64 0, .int .i64 0, .string { data := #[] }, .string { data := #[] }, .string { data := #[] }, .slice none 0 0, .slice none 0 0, .bool false, .bool false, .slice none 0 0, .int .i64 0, .string { data := #[] }, .bool false, .slice none 0 0, .slice none 0 0, .slice none 0 0] 37))) := hide (((Ext.refl w).alloc _).alloc _)
  have ZV : Hid (((w.alloc (.cells #[.string s.pr, .int .i64 s.cols, .int .i64 s.rows, .string s.la, .string s.lb, .string s.lc, .slice ua s.un uc, .slice ha s.kh.length hc, .bool s.kp, .bool s.nav, .slice pa s.pn pc, .int .i64 s.at9, .string s.dr, .bool s.st, .slice qa s.qn qc, .slice la s.ln lc, .slice da s.dn dc] 37)).alloc (.cells #[.string { data := #[] }, .int .i64 0, .int .i64 0, .string { data := #[] }, .string { data := #[] }, .string { data := #[] }, .slice none 0 0, .slice none 0 0, .bool false, .bool false, .slice none 0 0, .int .i64 0, .string { data := #[] }, .bool false, .slice none 0 0, .slice none 0 0, .slice none 0 0] 37)).heap.size = w.heap.size + 1 + 1) := hide (by simp)
  unfold sesV at *
  rw [hM]
  clear hM
  go_enter Tryz.func18, Tryz.ntmps18
  go_wp2_with (refine wpList_load_blk rfl 37 _ rfl (w.heap.size) rfl _ _ _ _ (unhide HB0) Tryz.underlying37 rfl infoSes ?_)
  refine ((unhide hcC) _ (unhide EV)).mono ?_
  rintro e w1 ⟨u1, h1, p1, q1, l1, d1, rfl, hO, F1⟩
  obtain ⟨u1a, u1c, h1a, h1c, p1a, p1c, q1a, q1c, l1a, l1c, d1a, d1c, rfl, rfl, rfl, rfl, rfl, rfl⟩ := hO.reads.forms
  have E1 := hide ((unhide EV).trans F1)
  have Z1 := hide F1.size
  replace HB0 := hide (F1.kept (unhide HB0))
  replace HB1 := hide (F1.kept (unhide HB1))
  replace hO := hO.mono (b' := w.heap.size + 1 + 1) (by have := unhide ZV; omega)
  have HO := hide hO
  have HFT : Hid (∀ g, SesFoot (.slice u1a s.un u1c) (.slice h1a s.kh.length h1c) (.slice p1a s.pn p1c) (.slice q1a s.qn q1c) (.slice l1a s.ln l1c) (.slice d1a s.dn d1c) g → w.heap.size + 1 + 1 ≤ g ∧ g < w1.heap.size) := hide (fun g hg => hO.foot hg)
  clear hcC hO F1
  go_wp2_with (first
    | (refine wpList_store_blk rfl 37 _ _ rfl rfl (w1.heap.size) rfl _ _ (sesC s (.slice u1a s.un u1c) (.slice h1a s.kh.length h1c) (.slice p1a s.pn p1c) (.slice q1a s.qn q1c) (.slice l1a s.ln l1c) (.slice d1a s.dn d1c)) rfl (new_block w1 _) infoSes rfl (by simp [Value.oneCell', sesC]) ?_; intro X hx9 hf9; have HX := hide hx9; have FX := hide (hf9.ext ((Ext.refl w1).alloc _) (fun q hq => by omega)); replace HB0 := hide ((unhide FX).kept (unhide HB0)); have HB0a := hide (((Ext.refl X).alloc (.cells #[] 5)).kept (unhide HB0)); clear hx9 hf9)
    | (refine wpList_load_blk rfl 37 _ rfl (w.heap.size) rfl _ _ _ _ (unhide HB0a) Tryz.underlying37 rfl infoSes ?_))
  replace HB1 := hide ((unhide FX).kept (unhide HB1))
  replace HO := hide ((unhide HO).ext (unhide FX))
  replace E1 := hide ((unhide E1).trans (unhide FX))
  have hxz : w1.heap.size < X.heap.size := lt_of_block (unhide HX)
  refine ((unhide hcS) _ ((unhide E1).alloc _)).mono ?_
  rintro e w2 ⟨rfl, F20⟩
  have F2 : Ext X w2 := ((Ext.refl X).alloc _).trans F20
  replace HB0 := hide (F2.kept (unhide HB0))
  replace HB1 := hide (F2.kept (unhide HB1))
  replace HX := hide (F2.kept (unhide HX))
  replace HO := hide ((unhide HO).ext F2)
  replace E1 := hide ((unhide E1).trans F2)
  have z2 := F2.size
  have hlt : Hid (w.heap.size + 1 < w1.heap.size ∧ w1.heap.size < w2.heap.size) := hide (by have h1 := unhide ZV; have h2 := unhide Z1; omega)
  clear F2 F20 FX hcS EV ZV Z1 HB0a
  have b1 : (5000 : Int) < (M : Int) := by have := unhide HM; omega
  go_wp2_with (first
    | (refine wpList_load_blk rfl 37 _ rfl (w1.heap.size) rfl _ _ _ _ (unhide HX) Tryz.underlying37 rfl infoSes ?_)
    | (refine wpList_store_blk rfl 37 _ _ rfl rfl (w.heap.size + 1) rfl _ _ (sesC s (.slice u1a s.un u1c) (.slice h1a s.kh.length h1c) (.slice p1a s.pn p1c) (.slice q1a s.qn q1c) (.slice l1a s.ln l1c) (.slice d1a s.dn d1c)) rfl (unhide HB1) infoSes rfl (by simp [Value.oneCell', sesC]) ?_; intro Y hy9 hf9; have HY := hide hy9; have FY := hide hf9; clear hy9 hf9))
  have v0 : Y.cell? ⟨w.heap.size + 1, 0, none⟩ = some (.string s.pr) := cells_of (unhide HY) 0 _ rfl
  have v1 : Y.cell? ⟨w.heap.size + 1, 1, none⟩ = some (.int .i64 s.cols) := cells_of (unhide HY) 1 _ rfl
  have v2 : Y.cell? ⟨w.heap.size + 1, 2, none⟩ = some (.int .i64 s.rows) := cells_of (unhide HY) 2 _ rfl
  have v3 : Y.cell? ⟨w.heap.size + 1, 3, none⟩ = some (.string s.la) := cells_of (unhide HY) 3 _ rfl
  have v4 : Y.cell? ⟨w.heap.size + 1, 4, none⟩ = some (.string s.lb) := cells_of (unhide HY) 4 _ rfl
  have v5 : Y.cell? ⟨w.heap.size + 1, 5, none⟩ = some (.string s.lc) := cells_of (unhide HY) 5 _ rfl
  have v6 : Y.cell? ⟨w.heap.size + 1, 6, none⟩ = some (.slice u1a s.un u1c) := cells_of (unhide HY) 6 _ rfl
  have v7 : Y.cell? ⟨w.heap.size + 1, 7, none⟩ = some (.slice h1a s.kh.length h1c) := cells_of (unhide HY) 7 _ rfl
  have v8 : Y.cell? ⟨w.heap.size + 1, 8, none⟩ = some (.bool s.kp) := cells_of (unhide HY) 8 _ rfl
  have v9 : Y.cell? ⟨w.heap.size + 1, 9, none⟩ = some (.bool s.nav) := cells_of (unhide HY) 9 _ rfl
  have v10 : Y.cell? ⟨w.heap.size + 1, 10, none⟩ = some (.slice p1a s.pn p1c) := cells_of (unhide HY) 10 _ rfl
  have v11 : Y.cell? ⟨w.heap.size + 1, 11, none⟩ = some (.int .i64 s.at9) := cells_of (unhide HY) 11 _ rfl
  have v12 : Y.cell? ⟨w.heap.size + 1, 12, none⟩ = some (.string s.dr) := cells_of (unhide HY) 12 _ rfl
  have v13 : Y.cell? ⟨w.heap.size + 1, 13, none⟩ = some (.bool s.st) := cells_of (unhide HY) 13 _ rfl
  have v14 : Y.cell? ⟨w.heap.size + 1, 14, none⟩ = some (.slice q1a s.qn q1c) := cells_of (unhide HY) 14 _ rfl
  have v15 : Y.cell? ⟨w.heap.size + 1, 15, none⟩ = some (.slice l1a s.ln l1c) := cells_of (unhide HY) 15 _ rfl
  have v16 : Y.cell? ⟨w.heap.size + 1, 16, none⟩ = some (.slice d1a s.dn d1c) := cells_of (unhide HY) 16 _ rfl
  have hl := unhide hlt
  refine bodyPost_ret (v := .tuple #[sesV s (.slice u1a s.un u1c) (.slice h1a s.kh.length h1c) (.slice p1a s.pn p1c) (.slice q1a s.qn q1c) (.slice l1a s.ln l1c) (.slice d1a s.dn d1c), (.slice (some ⟨X.heap.size, 0, none⟩) 0 0), .int .i64 2]) (by simp [results, Tryz.results18, go_sem, sesV, v0, v1, v2, v3, v4, v5, v6, v7, v8, v9, v10, v11, v12, v13, v14, v15, v16]) rfl ⟨_, _, rfl, ⟨_, _, _, _, _, _, rfl, ((unhide HO).fr (unhide FY) (fun g hg e9 => by have := (unhide HFT) g hg; omega)).reads⟩, ⟨some ⟨X.heap.size, 0, none⟩, 0, rfl, by simp, fun h0 => by simp at h0⟩, (unhide FY).ext (unhide E1) (fun q hq => by omega)⟩
end Go.Proofs.YtgdadidppelgdaaGreatDoor

namespace Go.Proofs.YtgdadidppelgdaaGreatDoor
open Go.RowKit

set_option linter.unusedSimpArgs false in
set_option maxRecDepth 10000 in
set_option maxHeartbeats 8000000 in
theorem specPrint_full (s : SS) (bs : List Int) (ba : Option Addr) (bc : Nat) (hby : Bytes bs) (u h p q l d : Value) (w : World) (hA : SesAt w s u h p q l d) (hin : IntsAt w .u8 (.slice ba bs.length bc) bs) (hz : s.Sz) (hok : SesP s) (hle : bs.length ≤ 5000) (hst : s.st = true) (hqq : 20 < s.qn + (linesB bs).length) :
    Calls Tryz.prog 18 #[sesV s u h p q l d, (.slice ba bs.length bc)] w fun e w' => ∃ v0 v1, e = .returned (.tuple #[v0, v1, .int .i64 3]) ∧ (sesK s).R w' v0 ∧ (bytesK []).R w' v1 ∧ Ext w w' := by
  have hcC := hide (fun W (hW : Ext w W) => l7Copy_any s u h p q l d W (hA.ext hW) hz)
  have hcS := hide (fun W (hW : Ext w W) => specSessionOk_any s u h p q l d W (hA.ext hW) hz true (by simp [hok]))
  have hcL := hide (fun W (hW : Ext w W) => l7Lines_any (.slice ba bs.length bc) bs hby W (hin.ext hW) (by omega))
  have hnb9 : Hid ((linesB bs).length ≤ 5001) := hide (by have := linesB_bd bs; omega)
  have hqs := (queue_small hz hok).1
  have HST := hide hst
  clear hst
  simp only [sesV_C] at hcC hcS
  obtain ⟨ua, uc, ha, hc, pa, pc, qa, qc, la, lc, da, dc, rfl, rfl, rfl, rfl, rfl, rfl⟩ := hA.forms
  obtain ⟨M, hM⟩ : ∃ M, bs.length = M := ⟨_, rfl⟩
  have HM := hide hM
  clear hA hz hok hin
  have HB0 : Hid (((w.alloc (.cells #[.string s.pr, .int .i64 s.cols, .int .i64 s.rows, .string s.la, .string s.lb, .string s.lc, .slice ua s.un uc, .slice ha s.kh.length hc, .bool s.kp, .bool s.nav, .slice pa s.pn pc, .int .i64 s.at9, .string s.dr, .bool s.st, .slice qa s.qn qc, .slice la s.ln lc, .slice da s.dn dc] 37)).alloc (.cells #[.string { data := #[] }, .int .i64 0, .int .i64 0, .string { data := #[] }, .string { data := #[] }, .string { data := #[] }, .slice none 0 0, .slice none 0 0, .bool false, .bool false, .slice none 0 0, .int .i64 0, .string { data := #[] }, .bool false, .slice none 0 0, .slice none 0 0, .slice none 0 0] 37)).heap[w.heap.size]? = some (.cells #[.string s.pr, .int .i64 s.cols, .int .i64 s.rows, .string s.la, .string s.lb, .string s.lc, .slice ua s.un uc, .slice ha s.kh.length hc, .bool s.kp, .bool s.nav, .slice pa s.pn pc, .int .i64 s.at9, .string s.dr, .bool s.st, .slice qa s.qn qc, .slice la s.ln lc, .slice da s.dn dc] 37 (0, 0))) := hide (((Ext.refl _).alloc _).kept (new_block w _))
  have HB1 : Hid (((w.alloc (.cells #[.string s.pr, .int .i64 s.cols, .int .i64 s.rows, .string s.la, .string s.lb, .string s.lc, .slice ua s.un uc, .slice ha s.kh.length hc, .bool s.kp, .bool s.nav, .slice pa s.pn pc, .int .i64 s.at9, .string s.dr, .bool s.st, .slice qa s.qn qc, .slice la s.ln lc, .slice da s.dn dc] 37)).alloc (.cells #[.string { data := #[] }, .int .i64 0, .int .i64 0, .string { data := #[] }, .string { data := #[] }, .string { data := #[] }, .slice none 0 0, .slice none 0 0, .bool false, .bool false, .slice none 0 0, .int .i64 0, .string { data := #[] }, .bool false, .slice none 0 0, .slice none 0 0, .slice none 0 0] 37)).heap[w.heap.size + 1]? = some (.cells #[.string { data := #[] }, .int .i64 0, .int .i64 0, .string { data := #[] }, .string { data := #[] }, .string { data := #[] }, .slice none 0 0, .slice none 0 0, .bool false, .bool false, .slice none 0 0, .int .i64 0, .string { data := #[] }, .bool false, .slice none 0 0, .slice none 0 0, .slice none 0 0] 37 (0, 0))) := hide (by have h := new_block (w.alloc (.cells #[.string s.pr, .int .i64 s.cols, .int .i64 s.rows, .string s.la, .string s.lb, .string s.lc, .slice ua s.un uc, .slice ha s.kh.length hc, .bool s.kp, .bool s.nav, .slice pa s.pn pc, .int .i64 s.at9, .string s.dr, .bool s.st, .slice qa s.qn qc, .slice la s.ln lc, .slice da s.dn dc] 37)) (.cells #[.string { data := #[] }, .int .i64 0, .int .i64 0, .string { data := #[] }, .string { data := #[] }, .string { data := #[] }, .slice none 0 0, .slice none 0 0, .bool false, .bool false, .slice none 0 0, .int .i64 0, .string { data := #[] }, .bool false, .slice none 0 0, .slice none 0 0, .slice none 0 0] 37); rw [show (w.alloc (.cells #[.string s.pr, .int .i64 s.cols, .int .i64 s.rows, .string s.la, .string s.lb, .string s.lc, .slice ua s.un uc, .slice ha s.kh.length hc, .bool s.kp, .bool s.nav, .slice pa s.pn pc, .int .i64 s.at9, .string s.dr, .bool s.st, .slice qa s.qn qc, .slice la s.ln lc, .slice da s.dn dc] 37)).heap.size = w.heap.size + 1 by simp] at h; exact h)
  have EV : Hid (Ext w ((w.alloc (.cells #[.string s.pr, .int .i64 s.cols, .int .i64 s.rows, .string s.la, .string s.lb, .string s.lc, .slice ua s.un uc, .slice ha s.kh.length hc, .bool s.kp, .bool s.nav, .slice pa s.pn pc, .int .i64 s.at9, .string s.dr, .bool s.st, .slice qa s.qn qc, .slice la s.ln lc, .slice da s.dn dc] 37)).alloc (.cells #[.string { data := #[] }, .int .i64 0, .int .i64 0, .string { data := #[] }, .string { data := #[] }, .string { data := #[] }, .slice none 0 0, .slice none 0 0, .bool false, .bool false, .slice none 0 0, .int .i64 0, .string { data := #[] }, .bool false, .slice none 0 0, .slice none 0 0, .slice none 0 0] 37))) := hide (((Ext.refl w).alloc _).alloc _)
  have ZV : Hid (((w.alloc (.cells #[.string s.pr, .int .i64 s.cols, .int .i64 s.rows, .string s.la, .string s.lb, .string s.lc, .slice ua s.un uc, .slice ha s.kh.length hc, .bool s.kp, .bool s.nav, .slice pa s.pn pc, .int .i64 s.at9, .string s.dr, .bool s.st, .slice qa s.qn qc, .slice la s.ln lc, .slice da s.dn dc] 37)).alloc (.cells #[.string { data := #[] }, .int .i64 0, .int .i64 0, .string { data := #[] }, .string { data := #[] }, .string { data := #[] }, .slice none 0 0, .slice none 0 0, .bool false, .bool false, .slice none 0 0, .int .i64 0, .string { data := #[] }, .bool false, .slice none 0 0, .slice none 0 0, .slice none 0 0] 37)).heap.size = w.heap.size + 1 + 1) := hide (by simp)
  unfold sesV at *
  rw [hM]
  clear hM
  go_enter Tryz.func18, Tryz.ntmps18
  go_wp2_with (refine wpList_load_blk rfl 37 _ rfl (w.heap.size) rfl _ _ _ _ (unhide HB0) Tryz.underlying37 rfl infoSes ?_)
  refine ((unhide hcC) _ (unhide EV)).mono ?_
  rintro e w1 ⟨u1, h1, p1, q1, l1, d1, rfl, hO, F1⟩
  obtain ⟨u1a, u1c, h1a, h1c, p1a, p1c, q1a, q1c, l1a, l1c, d1a, d1c, rfl, rfl, rfl, rfl, rfl, rfl⟩ := hO.reads.forms
  have E1 := hide ((unhide EV).trans F1)
  have Z1 := hide F1.size
  replace HB0 := hide (F1.kept (unhide HB0))
  replace HB1 := hide (F1.kept (unhide HB1))
  replace hO := hO.mono (b' := w.heap.size + 1 + 1) (by have := unhide ZV; omega)
  have HO := hide hO
  have HFT : Hid (∀ g, SesFoot (.slice u1a s.un u1c) (.slice h1a s.kh.length h1c) (.slice p1a s.pn p1c) (.slice q1a s.qn q1c) (.slice l1a s.ln l1c) (.slice d1a s.dn d1c) g → w.heap.size + 1 + 1 ≤ g ∧ g < w1.heap.size) := hide (fun g hg => hO.foot hg)
  clear hcC hO F1
  go_wp2_with (first
    | (refine wpList_store_blk rfl 37 _ _ rfl rfl (w1.heap.size) rfl _ _ (sesC s (.slice u1a s.un u1c) (.slice h1a s.kh.length h1c) (.slice p1a s.pn p1c) (.slice q1a s.qn q1c) (.slice l1a s.ln l1c) (.slice d1a s.dn d1c)) rfl (new_block w1 _) infoSes rfl (by simp [Value.oneCell', sesC]) ?_; intro X hx9 hf9; have HX := hide hx9; have FX := hide (hf9.ext ((Ext.refl w1).alloc _) (fun q hq => by omega)); replace HB0 := hide ((unhide FX).kept (unhide HB0)); have HB0a := hide (((Ext.refl X).alloc (.cells #[] 5)).kept (unhide HB0)); clear hx9 hf9)
    | (refine wpList_load_blk rfl 37 _ rfl (w.heap.size) rfl _ _ _ _ (unhide HB0a) Tryz.underlying37 rfl infoSes ?_))
  replace HB1 := hide ((unhide FX).kept (unhide HB1))
  replace HO := hide ((unhide HO).ext (unhide FX))
  replace E1 := hide ((unhide E1).trans (unhide FX))
  have hxz : w1.heap.size < X.heap.size := lt_of_block (unhide HX)
  refine ((unhide hcS) _ ((unhide E1).alloc _)).mono ?_
  rintro e w2 ⟨rfl, F20⟩
  have F2 : Ext X w2 := ((Ext.refl X).alloc _).trans F20
  replace HB0 := hide (F2.kept (unhide HB0))
  replace HB1 := hide (F2.kept (unhide HB1))
  replace HX := hide (F2.kept (unhide HX))
  replace HO := hide ((unhide HO).ext F2)
  replace E1 := hide ((unhide E1).trans F2)
  have z2 := F2.size
  have hlt : Hid (w.heap.size + 1 < w1.heap.size ∧ w1.heap.size < w2.heap.size) := hide (by have h1 := unhide ZV; have h2 := unhide Z1; omega)
  clear F2 F20 FX hcS EV ZV Z1 HB0a
  have b1 : ¬ ((5000 : Int) < (M : Int)) := by have := unhide HM; omega
  rw [unhide HM] at hcL
  go_wp2_with fail
  refine ((unhide hcL) w2 (unhide E1)).mono ?_
  rintro e w3 ⟨v3, rfl, o3, F3⟩
  obtain ⟨a3, c3, rfl⟩ := o3.slice
  have HR3 := hide o3
  replace HB0 := hide (F3.kept (unhide HB0))
  replace HB1 := hide (F3.kept (unhide HB1))
  replace HX := hide (F3.kept (unhide HX))
  replace HO := hide ((unhide HO).ext F3)
  replace E1 := hide ((unhide E1).trans F3)
  have z3 := F3.size
  replace hlt : Hid (w.heap.size + 1 < w1.heap.size ∧ w1.heap.size < w3.heap.size) := hide (by have := unhide hlt; omega)
  clear o3 F3 hcL
  have k13 : w3.cell? ⟨w.heap.size, 13, none⟩ = some (.bool true) := by have h9 : w3.cell? ⟨w.heap.size, 13, none⟩ = some (.bool s.st) := cells_of (unhide HB0) 13 _ rfl; rw [unhide HST] at h9; exact h9
  have k14 : w3.cell? ⟨w.heap.size, 14, none⟩ = some (.slice qa s.qn qc) := cells_of (unhide HB0) 14 _ rfl
  obtain ⟨N, hN⟩ : ∃ N, (linesB bs).length = N := ⟨_, rfl⟩
  have HN := hide hN
  have hnb := unhide hnb9
  rw [hN] at hnb hqq
  rw [hN]
  clear hN
  have b2 : (20 : Int) < (s.qn : Int) + (N : Int) := by omega
  have bw : IntKind.i64.wrap ((s.qn : Int) + (N : Int)) = (s.qn : Int) + (N : Int) := by rw [IntKind.wrap_i64]; omega
  go_wp2_with (first
    | (refine wpList_load_blk rfl 37 _ rfl (w1.heap.size) rfl _ _ _ _ (unhide HX) Tryz.underlying37 rfl infoSes ?_)
    | (refine wpList_store_blk rfl 37 _ _ rfl rfl (w.heap.size + 1) rfl _ _ (sesC s (.slice u1a s.un u1c) (.slice h1a s.kh.length h1c) (.slice p1a s.pn p1c) (.slice q1a s.qn q1c) (.slice l1a s.ln l1c) (.slice d1a s.dn d1c)) rfl (unhide HB1) infoSes rfl (by simp [Value.oneCell', sesC]) ?_; intro Y hy9 hf9; have HY := hide hy9; have FY := hide hf9; clear hy9 hf9))
  have v0 : Y.cell? ⟨w.heap.size + 1, 0, none⟩ = some (.string s.pr) := cells_of (unhide HY) 0 _ rfl
  have v1 : Y.cell? ⟨w.heap.size + 1, 1, none⟩ = some (.int .i64 s.cols) := cells_of (unhide HY) 1 _ rfl
  have v2 : Y.cell? ⟨w.heap.size + 1, 2, none⟩ = some (.int .i64 s.rows) := cells_of (unhide HY) 2 _ rfl
  have v3 : Y.cell? ⟨w.heap.size + 1, 3, none⟩ = some (.string s.la) := cells_of (unhide HY) 3 _ rfl
  have v4 : Y.cell? ⟨w.heap.size + 1, 4, none⟩ = some (.string s.lb) := cells_of (unhide HY) 4 _ rfl
  have v5 : Y.cell? ⟨w.heap.size + 1, 5, none⟩ = some (.string s.lc) := cells_of (unhide HY) 5 _ rfl
  have v6 : Y.cell? ⟨w.heap.size + 1, 6, none⟩ = some (.slice u1a s.un u1c) := cells_of (unhide HY) 6 _ rfl
  have v7 : Y.cell? ⟨w.heap.size + 1, 7, none⟩ = some (.slice h1a s.kh.length h1c) := cells_of (unhide HY) 7 _ rfl
  have v8 : Y.cell? ⟨w.heap.size + 1, 8, none⟩ = some (.bool s.kp) := cells_of (unhide HY) 8 _ rfl
  have v9 : Y.cell? ⟨w.heap.size + 1, 9, none⟩ = some (.bool s.nav) := cells_of (unhide HY) 9 _ rfl
  have v10 : Y.cell? ⟨w.heap.size + 1, 10, none⟩ = some (.slice p1a s.pn p1c) := cells_of (unhide HY) 10 _ rfl
  have v11 : Y.cell? ⟨w.heap.size + 1, 11, none⟩ = some (.int .i64 s.at9) := cells_of (unhide HY) 11 _ rfl
  have v12 : Y.cell? ⟨w.heap.size + 1, 12, none⟩ = some (.string s.dr) := cells_of (unhide HY) 12 _ rfl
  have v13 : Y.cell? ⟨w.heap.size + 1, 13, none⟩ = some (.bool s.st) := cells_of (unhide HY) 13 _ rfl
  have v14 : Y.cell? ⟨w.heap.size + 1, 14, none⟩ = some (.slice q1a s.qn q1c) := cells_of (unhide HY) 14 _ rfl
  have v15 : Y.cell? ⟨w.heap.size + 1, 15, none⟩ = some (.slice l1a s.ln l1c) := cells_of (unhide HY) 15 _ rfl
  have v16 : Y.cell? ⟨w.heap.size + 1, 16, none⟩ = some (.slice d1a s.dn d1c) := cells_of (unhide HY) 16 _ rfl
  have hl := unhide hlt
  refine bodyPost_ret (v := .tuple #[sesV s (.slice u1a s.un u1c) (.slice h1a s.kh.length h1c) (.slice p1a s.pn p1c) (.slice q1a s.qn q1c) (.slice l1a s.ln l1c) (.slice d1a s.dn d1c), (.slice (some ⟨X.heap.size, 0, none⟩) 0 0), .int .i64 3]) (by simp [results, Tryz.results18, go_sem, sesV, v0, v1, v2, v3, v4, v5, v6, v7, v8, v9, v10, v11, v12, v13, v14, v15, v16]) rfl ⟨_, _, rfl, ⟨_, _, _, _, _, _, rfl, ((unhide HO).fr (unhide FY) (fun g hg e9 => by have := (unhide HFT) g hg; omega)).reads⟩, ⟨some ⟨X.heap.size, 0, none⟩, 0, rfl, by simp, fun h0 => by simp at h0⟩, (unhide FY).ext (unhide E1) (fun q hq => by omega)⟩
set_option linter.unusedSimpArgs false in
set_option maxRecDepth 10000 in
set_option maxHeartbeats 8000000 in
theorem specPrint_none (s : SS) (bs : List Int) (ba : Option Addr) (bc : Nat) (hby : Bytes bs) (u h p q l d : Value) (w : World) (hA : SesAt w s u h p q l d) (hin : IntsAt w .u8 (.slice ba bs.length bc) bs) (hz : s.Sz) (hok : SesP s) (hle : bs.length ≤ 5000) (hst : s.st = false) (hqq : (linesB bs).length = 0) :
    Calls Tryz.prog 18 #[sesV s u h p q l d, (.slice ba bs.length bc)] w fun e w' => ∃ v0 v1, e = .returned (.tuple #[v0, v1, .int .i64 0]) ∧ (sesK s).R w' v0 ∧ (bytesK []).R w' v1 ∧ Ext w w' := by
  have hcC := hide (fun W (hW : Ext w W) => l7Copy_any s u h p q l d W (hA.ext hW) hz)
  have hcS := hide (fun W (hW : Ext w W) => specSessionOk_any s u h p q l d W (hA.ext hW) hz true (by simp [hok]))
  have hcL := hide (fun W (hW : Ext w W) => l7Lines_any (.slice ba bs.length bc) bs hby W (hin.ext hW) (by omega))
  have hnb9 : Hid ((linesB bs).length ≤ 5001) := hide (by have := linesB_bd bs; omega)
  have hqs := (queue_small hz hok).1
  have HST := hide hst
  clear hst
  simp only [sesV_C] at hcC hcS
  obtain ⟨ua, uc, ha, hc, pa, pc, qa, qc, la, lc, da, dc, rfl, rfl, rfl, rfl, rfl, rfl⟩ := hA.forms
  obtain ⟨M, hM⟩ : ∃ M, bs.length = M := ⟨_, rfl⟩
  have HM := hide hM
  clear hA hz hok hin
  have HB0 : Hid (((w.alloc (.cells #[.string s.pr, .int .i64 s.cols, .int .i64 s.rows, .string s.la, .string s.lb, .string s.lc, .slice ua s.un uc, .slice ha s.kh.length hc, .bool s.kp, .bool s.nav, .slice pa s.pn pc, .int .i64 s.at9, .string s.dr, .bool s.st, .slice qa s.qn qc, .slice la s.ln lc, .slice da s.dn dc] 37)).alloc (.cells #[.string { data := #[] }, .int .i64 0, .int .i64 0, .string { data := #[] }, .string { data := #[] }, .string { data := #[] }, .slice none 0 0, .slice none 0 0, .bool false, .bool false, .slice none 0 0, .int .i64 0, .string { data := #[] }, .bool false, .slice none 0 0, .slice none 0 0, .slice none 0 0] 37)).heap[w.heap.size]? = some (.cells #[.string s.pr, .int .i64 s.cols, .int .i64 s.rows, .string s.la, .string s.lb, .string s.lc, .slice ua s.un uc, .slice ha s.kh.length hc, .bool s.kp, .bool s.nav, .slice pa s.pn pc, .int .i64 s.at9, .string s.dr, .bool s.st, .slice qa s.qn qc, .slice la s.ln lc, .slice da s.dn dc] 37 (0, 0))) := hide (((Ext.refl _).alloc _).kept (new_block w _))
  have HB1 : Hid (((w.alloc (.cells #[.string s.pr, .int .i64 s.cols, .int .i64 s.rows, .string s.la, .string s.lb, .string s.lc, .slice ua s.un uc, .slice ha s.kh.length hc, .bool s.kp, .bool s.nav, .slice pa s.pn pc, .int .i64 s.at9, .string s.dr, .bool s.st, .slice qa s.qn qc, .slice la s.ln lc, .slice da s.dn dc] 37)).alloc (.cells #[.string { data := #[] }, .int .i64 0, .int .i64 0, .string { data := #[] }, .string { data := #[] }, .string { data := #[] }, .slice none 0 0, .slice none 0 0, .bool false, .bool false, .slice none 0 0, .int .i64 0, .string { data := #[] }, .bool false, .slice none 0 0, .slice none 0 0, .slice none 0 0] 37)).heap[w.heap.size + 1]? = some (.cells #[.string { data := #[] }, .int .i64 0, .int .i64 0, .string { data := #[] }, .string { data := #[] }, .string { data := #[] }, .slice none 0 0, .slice none 0 0, .bool false, .bool false, .slice none 0 0, .int .i64 0, .string { data := #[] }, .bool false, .slice none 0 0, .slice none 0 0, .slice none 0 0] 37 (0, 0))) := hide (by have h := new_block (w.alloc (.cells #[.string s.pr, .int .i64 s.cols, .int .i64 s.rows, .string s.la, .string s.lb, .string s.lc, .slice ua s.un uc, .slice ha s.kh.length hc, .bool s.kp, .bool s.nav, .slice pa s.pn pc, .int .i64 s.at9, .string s.dr, .bool s.st, .slice qa s.qn qc, .slice la s.ln lc, .slice da s.dn dc] 37)) (.cells #[.string { data := #[] }, .int .i64 0, .int .i64 0, .string { data := #[] }, .string { data := #[] }, .string { data := #[] }, .slice none 0 0, .slice none 0 0, .bool false, .bool false, .slice none 0 0, .int .i64 0, .string { data := #[] }, .bool false, .slice none 0 0, .slice none 0 0, .slice none 0 0] 37); rw [show (w.alloc (.cells #[.string s.pr, .int .i64 s.cols, .int .i64 s.rows, .string s.la, .string s.lb, .string s.lc, .slice ua s.un uc, .slice ha s.kh.length hc, .bool s.kp, .bool s.nav, .slice pa s.pn pc, .int .i64 s.at9, .string s.dr, .bool s.st, .slice qa s.qn qc, .slice la s.ln lc, .slice da s.dn dc] 37)).heap.size = w.heap.size + 1 by simp] at h; exact h)
  have EV : Hid (Ext w ((w.alloc (.cells #[.string s.pr, .int .i64 s.cols, .int .i64 s.rows, .string s.la, .string s.lb, .string s.lc, .slice ua s.un uc, .slice ha s.kh.length hc, .bool s.kp, .bool s.nav, .slice pa s.pn pc, .int .i64 s.at9, .string s.dr, .bool s.st, .slice qa s.qn qc, .slice la s.ln lc, .slice da s.dn dc] 37)).alloc (.cells #[.string { data := #[] }, .int .i64 0, .int .i64 0, .string { data := #[] }, .string { data := #[] }, .string { data := #[] }, .slice none 0 0, .slice none 0 0, .bool false, .bool false, .slice none 0 0, .int .i64 0, .string { data := #[] }, .bool false, .slice none 0 0, .slice none 0 0, .slice none 0 0] 37))) := hide (((Ext.refl w).alloc _).alloc _)
  have ZV : Hid (((w.alloc (.cells #[.string s.pr, .int .i64 s.cols, .int .i64 s.rows, .string s.la, .string s.lb, .string s.lc, .slice ua s.un uc, .slice ha s.kh.length hc, .bool s.kp, .bool s.nav, .slice pa s.pn pc, .int .i64 s.at9, .string s.dr, .bool s.st, .slice qa s.qn qc, .slice la s.ln lc, .slice da s.dn dc] 37)).alloc (.cells #[.string { data := #[] }, .int .i64 0, .int .i64 0, .string { data := #[] }, .string { data := #[] }, .string { data := #[] }, .slice none 0 0, .slice none 0 0, .bool false, .bool false, .slice none 0 0, .int .i64 0, .string { data := #[] }, .bool false, .slice none 0 0, .slice none 0 0, .slice none 0 0] 37)).heap.size = w.heap.size + 1 + 1) := hide (by simp)
  unfold sesV at *
  rw [hM]
  clear hM
  go_enter Tryz.func18, Tryz.ntmps18
  go_wp2_with (refine wpList_load_blk rfl 37 _ rfl (w.heap.size) rfl _ _ _ _ (unhide HB0) Tryz.underlying37 rfl infoSes ?_)
  refine ((unhide hcC) _ (unhide EV)).mono ?_
  rintro e w1 ⟨u1, h1, p1, q1, l1, d1, rfl, hO, F1⟩
  obtain ⟨u1a, u1c, h1a, h1c, p1a, p1c, q1a, q1c, l1a, l1c, d1a, d1c, rfl, rfl, rfl, rfl, rfl, rfl⟩ := hO.reads.forms
  have E1 := hide ((unhide EV).trans F1)
  have Z1 := hide F1.size
  replace HB0 := hide (F1.kept (unhide HB0))
  replace HB1 := hide (F1.kept (unhide HB1))
  replace hO := hO.mono (b' := w.heap.size + 1 + 1) (by have := unhide ZV; omega)
  have HO := hide hO
  have HFT : Hid (∀ g, SesFoot (.slice u1a s.un u1c) (.slice h1a s.kh.length h1c) (.slice p1a s.pn p1c) (.slice q1a s.qn q1c) (.slice l1a s.ln l1c) (.slice d1a s.dn d1c) g → w.heap.size + 1 + 1 ≤ g ∧ g < w1.heap.size) := hide (fun g hg => hO.foot hg)
  clear hcC hO F1
  go_wp2_with (first
    | (refine wpList_store_blk rfl 37 _ _ rfl rfl (w1.heap.size) rfl _ _ (sesC s (.slice u1a s.un u1c) (.slice h1a s.kh.length h1c) (.slice p1a s.pn p1c) (.slice q1a s.qn q1c) (.slice l1a s.ln l1c) (.slice d1a s.dn d1c)) rfl (new_block w1 _) infoSes rfl (by simp [Value.oneCell', sesC]) ?_; intro X hx9 hf9; have HX := hide hx9; have FX := hide (hf9.ext ((Ext.refl w1).alloc _) (fun q hq => by omega)); replace HB0 := hide ((unhide FX).kept (unhide HB0)); have HB0a := hide (((Ext.refl X).alloc (.cells #[] 5)).kept (unhide HB0)); clear hx9 hf9)
    | (refine wpList_load_blk rfl 37 _ rfl (w.heap.size) rfl _ _ _ _ (unhide HB0a) Tryz.underlying37 rfl infoSes ?_))
  replace HB1 := hide ((unhide FX).kept (unhide HB1))
  replace HO := hide ((unhide HO).ext (unhide FX))
  replace E1 := hide ((unhide E1).trans (unhide FX))
  have hxz : w1.heap.size < X.heap.size := lt_of_block (unhide HX)
  refine ((unhide hcS) _ ((unhide E1).alloc _)).mono ?_
  rintro e w2 ⟨rfl, F20⟩
  have F2 : Ext X w2 := ((Ext.refl X).alloc _).trans F20
  replace HB0 := hide (F2.kept (unhide HB0))
  replace HB1 := hide (F2.kept (unhide HB1))
  replace HX := hide (F2.kept (unhide HX))
  replace HO := hide ((unhide HO).ext F2)
  replace E1 := hide ((unhide E1).trans F2)
  have z2 := F2.size
  have hlt : Hid (w.heap.size + 1 < w1.heap.size ∧ w1.heap.size < w2.heap.size) := hide (by have h1 := unhide ZV; have h2 := unhide Z1; omega)
  clear F2 F20 FX hcS EV ZV Z1 HB0a
  have b1 : ¬ ((5000 : Int) < (M : Int)) := by have := unhide HM; omega
  rw [unhide HM] at hcL
  go_wp2_with fail
  refine ((unhide hcL) w2 (unhide E1)).mono ?_
  rintro e w3 ⟨v3, rfl, o3, F3⟩
  obtain ⟨a3, c3, rfl⟩ := o3.slice
  have HR3 := hide o3
  replace HB0 := hide (F3.kept (unhide HB0))
  replace HB1 := hide (F3.kept (unhide HB1))
  replace HX := hide (F3.kept (unhide HX))
  replace HO := hide ((unhide HO).ext F3)
  replace E1 := hide ((unhide E1).trans F3)
  have z3 := F3.size
  replace hlt : Hid (w.heap.size + 1 < w1.heap.size ∧ w1.heap.size < w3.heap.size) := hide (by have := unhide hlt; omega)
  clear o3 F3 hcL
  have k13 : w3.cell? ⟨w.heap.size, 13, none⟩ = some (.bool false) := by have h9 : w3.cell? ⟨w.heap.size, 13, none⟩ = some (.bool s.st) := cells_of (unhide HB0) 13 _ rfl; rw [unhide HST] at h9; exact h9
  have k14 : w3.cell? ⟨w.heap.size, 14, none⟩ = some (.slice qa s.qn qc) := cells_of (unhide HB0) 14 _ rfl
  obtain ⟨N, hN⟩ : ∃ N, (linesB bs).length = N := ⟨_, rfl⟩
  have HN := hide hN
  have hnb := unhide hnb9
  rw [hN] at hnb hqq
  rw [hN]
  clear hN
  have b2 : (N : Int) = 0 := by omega
  go_wp2_with (first
    | (refine wpList_load_blk rfl 37 _ rfl (w1.heap.size) rfl _ _ _ _ (unhide HX) Tryz.underlying37 rfl infoSes ?_)
    | (refine wpList_store_blk rfl 37 _ _ rfl rfl (w.heap.size + 1) rfl _ _ (sesC s (.slice u1a s.un u1c) (.slice h1a s.kh.length h1c) (.slice p1a s.pn p1c) (.slice q1a s.qn q1c) (.slice l1a s.ln l1c) (.slice d1a s.dn d1c)) rfl (unhide HB1) infoSes rfl (by simp [Value.oneCell', sesC]) ?_; intro Y hy9 hf9; have HY := hide hy9; have FY := hide hf9; clear hy9 hf9))
  have v0 : Y.cell? ⟨w.heap.size + 1, 0, none⟩ = some (.string s.pr) := cells_of (unhide HY) 0 _ rfl
  have v1 : Y.cell? ⟨w.heap.size + 1, 1, none⟩ = some (.int .i64 s.cols) := cells_of (unhide HY) 1 _ rfl
  have v2 : Y.cell? ⟨w.heap.size + 1, 2, none⟩ = some (.int .i64 s.rows) := cells_of (unhide HY) 2 _ rfl
  have v3 : Y.cell? ⟨w.heap.size + 1, 3, none⟩ = some (.string s.la) := cells_of (unhide HY) 3 _ rfl
  have v4 : Y.cell? ⟨w.heap.size + 1, 4, none⟩ = some (.string s.lb) := cells_of (unhide HY) 4 _ rfl
  have v5 : Y.cell? ⟨w.heap.size + 1, 5, none⟩ = some (.string s.lc) := cells_of (unhide HY) 5 _ rfl
  have v6 : Y.cell? ⟨w.heap.size + 1, 6, none⟩ = some (.slice u1a s.un u1c) := cells_of (unhide HY) 6 _ rfl
  have v7 : Y.cell? ⟨w.heap.size + 1, 7, none⟩ = some (.slice h1a s.kh.length h1c) := cells_of (unhide HY) 7 _ rfl
  have v8 : Y.cell? ⟨w.heap.size + 1, 8, none⟩ = some (.bool s.kp) := cells_of (unhide HY) 8 _ rfl
  have v9 : Y.cell? ⟨w.heap.size + 1, 9, none⟩ = some (.bool s.nav) := cells_of (unhide HY) 9 _ rfl
  have v10 : Y.cell? ⟨w.heap.size + 1, 10, none⟩ = some (.slice p1a s.pn p1c) := cells_of (unhide HY) 10 _ rfl
  have v11 : Y.cell? ⟨w.heap.size + 1, 11, none⟩ = some (.int .i64 s.at9) := cells_of (unhide HY) 11 _ rfl
  have v12 : Y.cell? ⟨w.heap.size + 1, 12, none⟩ = some (.string s.dr) := cells_of (unhide HY) 12 _ rfl
  have v13 : Y.cell? ⟨w.heap.size + 1, 13, none⟩ = some (.bool s.st) := cells_of (unhide HY) 13 _ rfl
  have v14 : Y.cell? ⟨w.heap.size + 1, 14, none⟩ = some (.slice q1a s.qn q1c) := cells_of (unhide HY) 14 _ rfl
  have v15 : Y.cell? ⟨w.heap.size + 1, 15, none⟩ = some (.slice l1a s.ln l1c) := cells_of (unhide HY) 15 _ rfl
  have v16 : Y.cell? ⟨w.heap.size + 1, 16, none⟩ = some (.slice d1a s.dn d1c) := cells_of (unhide HY) 16 _ rfl
  have hl := unhide hlt
  refine bodyPost_ret (v := .tuple #[sesV s (.slice u1a s.un u1c) (.slice h1a s.kh.length h1c) (.slice p1a s.pn p1c) (.slice q1a s.qn q1c) (.slice l1a s.ln l1c) (.slice d1a s.dn d1c), (.slice (some ⟨X.heap.size, 0, none⟩) 0 0), .int .i64 0]) (by simp [results, Tryz.results18, go_sem, sesV, v0, v1, v2, v3, v4, v5, v6, v7, v8, v9, v10, v11, v12, v13, v14, v15, v16]) rfl ⟨_, _, rfl, ⟨_, _, _, _, _, _, rfl, ((unhide HO).fr (unhide FY) (fun g hg e9 => by have := (unhide HFT) g hg; omega)).reads⟩, ⟨some ⟨X.heap.size, 0, none⟩, 0, rfl, by simp, fun h0 => by simp at h0⟩, (unhide FY).ext (unhide E1) (fun q hq => by omega)⟩
end Go.Proofs.YtgdadidppelgdaaGreatDoor
