import Derived.Test.YtgdadidppelgdaaGreatDoorEraC
import Derived.Test.YtgdadidppelgdaaGreatDoorSetL
import Derived.Test.YtgdadidppelgdaaGreatDoorSesCopy2
import Derived.Test.YtgdadidppelgdaaGreatDoorSesOkS2
import Derived.Test.YtgdadidppelgdaaGreatDoorSpecPaint
namespace Go.Proofs.YtgdadidppelgdaaGreatDoor
open Go.RowKit

set_option linter.unusedSimpArgs false in
set_option maxRecDepth 10000 in
set_option maxHeartbeats 8000000 in
theorem specPrint_queue (s : SS) (bs : List Int) (ba : Option Addr) (bc : Nat) (hby : Bytes bs) (u h p q l d : Value) (w : World) (hA : SesAt w s u h p q l d) (hin : IntsAt w .u8 (.slice ba bs.length bc) bs) (hz : s.Sz) (hok : SesP s) (hle : bs.length ≤ 5000) (hst : s.st = true) (hqq : s.qn + (linesB bs).length ≤ 20) :
    Calls Tryz.prog 18 #[sesV s u h p q l d, (.slice ba bs.length bc)] w fun e w' => ∃ v0 v1, e = .returned (.tuple #[v0, v1, .int .i64 0]) ∧ (sesK (s.queue (linesB bs))).R w' v0 ∧ (bytesK []).R w' v1 ∧ Ext w w' := by
  obtain ⟨ic, hic, hc0, hc1, hc2⟩ := info_parts infoStrs
  have hcC := hide (fun W (hW : Ext w W) => l7Copy_any s u h p q l d W (hA.ext hW) hz)
  have hcS := hide (fun W (hW : Ext w W) => specSessionOk_any s u h p q l d W (hA.ext hW) hz true (by simp [hok]))
  have hcL := hide (fun W (hW : Ext w W) => l7Lines_any (.slice ba bs.length bc) bs hby W (hin.ext hW) (by omega))
  have hnb9 : Hid ((linesB bs).length ≤ 5001) := hide (by have := linesB_bd bs; omega)
  have hqs := (queue_small hz hok).1
  have HST := hide hst
  clear hst
  simp only [sesV_C] at hcC hcS
  obtain ⟨ua, uc, ha, hc, pa, pc, qa, qc, la, lc, da, dc, rfl, rfl, rfl, rfl, rfl, rfl⟩ := hA.forms
  obtain ⟨M, hM⟩ : ∃ M, bs.length = M := ⟨_, rfl⟩
  have HM := hide hM
  clear hA hz hok hin
  have HB0 : Hid (((w.alloc (.cells #[.string s.pr, .int .i64 s.cols, .int .i64 s.rows, .string s.la, .string s.lb, .string s.lc, .slice ua s.un uc, .slice ha s.kh.length hc, .bool s.kp, .bool s.nav, .slice pa s.pn pc, .int .i64 s.at9, .string s.dr, .bool s.st, .slice qa s.qn qc, .slice la s.ln lc, .slice da s.dn dc] 37)).alloc (.cells #[.string { data := #[] }, .int .i64 0, .int .i64 0, .string { data := #[] }, .string { data := #[] }, .string { data := #[] }, .slice none 0 0, .slice none 0 0, .bool false, .bool false, .slice none 0 0, .int .i64 0, .string { data := #[] }, .bool false, .slice none 0 0, .slice none 0 0, .slice none 0 0] 37)).heap[w.heap.size]? = some (.cells #[.string s.pr, .int .i64 s.cols, .int .i64 s.rows, .string s.la, .string s.lb, .string s.lc, .slice ua s.un uc, .slice ha s.kh.length hc, .bool s.kp, .bool s.nav, .slice pa s.pn pc, .int .i64 s.at9, .string s.dr, .bool s.st, .slice qa s.qn qc, .slice la s.ln lc, .slice da s.dn dc] 37 (0, 0))) := hide (((Ext.refl _).alloc _).kept (new_block w _))
  have HB1 : Hid (((w.alloc (.cells #[.string s.pr, .int .i64 s.cols, .int .i64 s.rows, .string s.la, .string s.lb, .string s.lc, .slice ua s.un uc, .slice ha s.kh.length hc, .bool s.kp, .bool s.nav, .slice pa s.pn pc, .int .i64 s.at9, .string s.dr, .bool s.st, .slice qa s.qn qc, .slice la s.ln lc, .slice da s.dn dc] 37)).alloc (.cells #[.string { data := #[] }, .int .i64 0, .int .i64 0, .string { data := #[] }, .string { data := #[] }, .string { data := #[] }, .slice none 0 0, .slice none 0 0, .bool false, .bool false, .slice none 0 0, .int .i64 0, .string { data := #[] }, .bool false, .slice none 0 0, .slice none 0 0, .slice none 0 0] 37)).heap[w.heap.size + 1]? = some (.cells #[.string { data := #[] }, .int .i64 0, .int .i64 0, .string { data := #[] }, .string { data := #[] }, .string { data := #[] }, .slice none 0 0, .slice none 0 0, .bool false, .bool false, .slice none 0 0, .int .i64 0, .string { data := #[] }, .bool false, .slice none 0 0, .slice none 0 0, .slice none 0 0] 37 (0, 0))) := hide (by have h := new_block (w.alloc (.cells #[.string s.pr, .int .i64 s.cols, .int .i64 s.rows, .string s.la, .string s.lb, .string s.lc, .slice ua s.un uc, .slice ha s.kh.length hc, .bool s.kp, .bool s.nav, .slice pa s.pn pc, .int .i64 s.at9, .string s.dr, .bool s.st, .slice qa s.qn qc, .slice la s.ln lc, .slice da s.dn dc] 37)) (.cells #[.string { data := #[] }, .int .i64 0, .int .i64 0, .string { data := #[] }, .string { data := #[] }, .string { data := #[] }, .slice none 0 0, .slice none 0 0, .bool false, .bool false, .slice none 0 0, .int .i64 0, .string { data := #[] }, .bool false, .slice none 0 0, .slice none 0 0, .slice none 0 0] 37); rw [show (w.alloc (.cells #[.string s.pr, .int .i64 s.cols, .int .i64 s.rows, .string s.la, .string s.lb, .string s.lc, .slice ua s.un uc, .slice ha s.kh.length hc, .bool s.kp, .bool s.nav, .slice pa s.pn pc, .int .i64 s.at9, .string s.dr, .bool s.st, .slice qa s.qn qc, .slice la s.ln lc, .slice da s.dn dc] 37)).heap.size = w.heap.size + 1 by simp] at h; exact h)
  have EV : Hid (Ext w ((w.alloc (.cells #[.string s.pr, .int .i64 s.cols, .int .i64 s.rows, .string s.la, .string s.lb, .string s.lc, .slice ua s.un uc, .slice ha s.kh.length hc, .bool s.kp, .bool s.nav, .slice pa s.pn pc, .int .i64 s.at9, .string s.dr, .bool s.st, .slice qa s.qn qc, .slice la s.ln lc, .slice da s.dn dc] 37)).alloc (.cells #[.string { data := #[] }, .int .i64 0, .int .i64 0, .string { data := #[] }, .string { data := #[] }, .string { data := #[] }, .slice none 0 0, .slice none 0 0, .bool false, .bool false, .slice none 0 0, .int .i64 0, .string { data := #[] }, .bool false, .slice none 0 0, .slice none 0 0, .slice none 0 0] 37))) := hide (((Ext.refl w).alloc _).alloc _)
  have ZV : Hid (((w.alloc (.cells #[.string s.pr, .int .i64 s.cols, .int .i64 s.rows, .string s.la, .string s.lb, .string s.lc, .slice ua s.un uc, .slice ha s.kh.length hc, .bool s.kp, .bool s.nav, .slice pa s.pn pc, .int .i64 s.at9, .string s.dr, .bool s.st, .slice qa s.qn qc, .slice la s.ln lc, .slice da s.dn dc] 37)).alloc (.cells #[.string { data := #[] }, .int .i64 0, .int .i64 0, .string { data := #[] }, .string { data := #[] }, .string { data := #[] }, .slice none 0 0, .slice none 0 0, .bool false, .bool false, .slice none 0 0, .int .i64 0, .string { data := #[] }, .bool false, .slice none 0 0, .slice none 0 0, .slice none 0 0] 37)).heap.size = w.heap.size + 1 + 1) := hide (by simp)
  unfold sesV at *
  rw [hM]
  clear hM
  go_enter Tryz.func18, Tryz.ntmps18
  go_wp2_with (refine wpList_load_blk rfl 37 _ rfl (w.heap.size) rfl _ _ _ _ (unhide HB0) Tryz.underlying37 rfl infoSes ?_)
  refine ((unhide hcC) _ (unhide EV)).mono ?_
  rintro e w1 ⟨u1, h1, p1, q1, l1, d1, rfl, hO, F1⟩
  obtain ⟨u1a, u1c, h1a, h1c, p1a, p1c, q1a, q1c, l1a, l1c, d1a, d1c, rfl, rfl, rfl, rfl, rfl, rfl⟩ := hO.reads.forms
  have E1 := hide ((unhide EV).trans F1)
  have Z1 := hide F1.size
  replace HB0 := hide (F1.kept (unhide HB0))
  replace HB1 := hide (F1.kept (unhide HB1))
  replace hO := hO.mono (b' := w.heap.size + 1 + 1) (by have := unhide ZV; omega)
  have HO := hide hO
  have HFT : Hid (∀ g, SesFoot (.slice u1a s.un u1c) (.slice h1a s.kh.length h1c) (.slice p1a s.pn p1c) (.slice q1a s.qn q1c) (.slice l1a s.ln l1c) (.slice d1a s.dn d1c) g → w.heap.size + 1 + 1 ≤ g ∧ g < w1.heap.size) := hide (fun g hg => hO.foot hg)
  clear hcC hO F1
  go_wp2_with (first
    | (refine wpList_store_blk rfl 37 _ _ rfl rfl (w1.heap.size) rfl _ _ (sesC s (.slice u1a s.un u1c) (.slice h1a s.kh.length h1c) (.slice p1a s.pn p1c) (.slice q1a s.qn q1c) (.slice l1a s.ln l1c) (.slice d1a s.dn d1c)) rfl (new_block w1 _) infoSes rfl (by simp [Value.oneCell', sesC]) ?_; intro X hx9 hf9; have HX := hide hx9; have FX := hide (hf9.ext ((Ext.refl w1).alloc _) (fun q hq => by omega)); replace HB0 := hide ((unhide FX).kept (unhide HB0)); have HB0a := hide (((Ext.refl X).alloc (.cells #[] 5)).kept (unhide HB0)); clear hx9 hf9)
    | (refine wpList_load_blk rfl 37 _ rfl (w.heap.size) rfl _ _ _ _ (unhide HB0a) Tryz.underlying37 rfl infoSes ?_))
  replace HB1 := hide ((unhide FX).kept (unhide HB1))
  replace HO := hide ((unhide HO).ext (unhide FX))
  replace E1 := hide ((unhide E1).trans (unhide FX))
  have hxz : w1.heap.size < X.heap.size := lt_of_block (unhide HX)
  refine ((unhide hcS) _ ((unhide E1).alloc _)).mono ?_
  rintro e w2 ⟨rfl, F20⟩
  have F2 : Ext X w2 := ((Ext.refl X).alloc _).trans F20
  replace HB0 := hide (F2.kept (unhide HB0))
  replace HB1 := hide (F2.kept (unhide HB1))
  replace HX := hide (F2.kept (unhide HX))
  replace HO := hide ((unhide HO).ext F2)
  replace E1 := hide ((unhide E1).trans F2)
  have z2 := F2.size
  have hlt : Hid (w.heap.size + 1 < w1.heap.size ∧ w1.heap.size < w2.heap.size) := hide (by have h1 := unhide ZV; have h2 := unhide Z1; omega)
  clear F2 F20 FX hcS EV ZV Z1 HB0a
  have b1 : ¬ ((5000 : Int) < (M : Int)) := by have := unhide HM; omega
  rw [unhide HM] at hcL
  go_wp2_with fail
  refine ((unhide hcL) w2 (unhide E1)).mono ?_
  rintro e w3 ⟨v3, rfl, o3, F3⟩
  obtain ⟨a3, c3, rfl⟩ := o3.slice
  have HR3 := hide o3
  replace HB0 := hide (F3.kept (unhide HB0))
  replace HB1 := hide (F3.kept (unhide HB1))
  replace HX := hide (F3.kept (unhide HX))
  replace HO := hide ((unhide HO).ext F3)
  replace E1 := hide ((unhide E1).trans F3)
  have z3 := F3.size
  replace hlt : Hid (w.heap.size + 1 < w1.heap.size ∧ w1.heap.size < w3.heap.size) := hide (by have := unhide hlt; omega)
  clear o3 F3 hcL
  have k13 : w3.cell? ⟨w.heap.size, 13, none⟩ = some (.bool true) := by have h9 : w3.cell? ⟨w.heap.size, 13, none⟩ = some (.bool s.st) := cells_of (unhide HB0) 13 _ rfl; rw [unhide HST] at h9; exact h9
  have k14 : w3.cell? ⟨w.heap.size, 14, none⟩ = some (.slice qa s.qn qc) := cells_of (unhide HB0) 14 _ rfl
  obtain ⟨N, hN⟩ : ∃ N, (linesB bs).length = N := ⟨_, rfl⟩
  have HN := hide hN
  have hnb := unhide hnb9
  rw [hN] at hnb hqq
  rw [hN]
  clear hN
  have b2 : ¬ ((20 : Int) < (s.qn : Int) + (N : Int)) := by omega
  have bw : IntKind.i64.wrap ((s.qn : Int) + (N : Int)) = (s.qn : Int) + (N : Int) := by rw [IntKind.wrap_i64]; omega
  have x14 : w3.cell? ⟨w1.heap.size, 14, none⟩ = some (.slice q1a s.qn q1c) := cells_of (unhide HX) 14 _ rfl
  have hl := unhide hlt
  have HSRC : Hid (Src w3 1 (.slice a3 N c3) N ((linesB bs).map Value.string)) := hide (by have h9 := Src.strs ((unhide HR3).reads); rw [strL_atR, unhide HN] at h9; exact h9)
  go_wp2_with (first
    | (at_builtin; go_must (refine wpList_plain rfl fun K hK => ?_; refine wp_app_at _ _ 28 rfl (w.heap.size + 1 + 1) 9 ic (.string { data := #[] }) 1 16 Tryz.underlying28 hic hc0 hc1 hc2 rfl (by decide) (.slice q1a s.qn q1c) s.qn (strL s.qt s.qn) rfl (own1_strL (unhide HO).qu) (.slice a3 N c3) N ((linesB bs).map Value.string) rfl (unhide HSRC) (by unfold maxLen; omega) (by omega) (by omega) ?_); intro v8 w8 o8 G8 hat; rw [queue_strL] at o8; have e9 : s.qn + N = (s.queue (linesB bs)).qn := (by show _ = s.qn + (linesB bs).length; rw [unhide HN]); rw [e9] at o8; obtain ⟨a8, c8, rfl⟩ := owns_slice o8; have X8 := Fr.grown (S := fun q => (Value.slice q1a s.qn q1c).ownBlock = some q) (w := w3) (Fr.refl _ _) G8 (fun q hq => hq); have HO8 := hide o8; have HX8 := hide X8; have HAT := hide hat; have hb8 := X8.kept (unhide HX) (fun hq => by have := (unhide HFT) _ (.inr (.inr (.inr (.inl hq)))); omega); have HB8 := hide hb8; have y14 : w8.cell? ⟨w1.heap.size, 14, none⟩ = some (.slice q1a s.qn q1c) := cells_of hb8 14 _ rfl; have f14 : w8.frozen? ⟨w1.heap.size, 14, none⟩ = false := Lib.frozen_of_heap hb8 14; refine hK _ _ ?_; clear hK K X8 o8 G8 hb8 hat e9)
    | (refine wpList_load_blk rfl 37 _ rfl (w1.heap.size) rfl _ (sesC (s.queue (linesB bs)) (.slice u1a s.un u1c) (.slice h1a s.kh.length h1c) (.slice p1a s.pn p1c) (.slice a8 (s.queue (linesB bs)).qn c8) (.slice l1a s.ln l1c) (.slice d1a s.dn d1c)) _ _ (set_blk2 (unhide HB8) rfl) Tryz.underlying37 rfl infoSes ?_)
    | (refine wpList_store_blk rfl 37 _ _ rfl rfl (w.heap.size + 1) rfl _ _ (sesC (s.queue (linesB bs)) (.slice u1a s.un u1c) (.slice h1a s.kh.length h1c) (.slice p1a s.pn p1c) (.slice a8 (s.queue (linesB bs)).qn c8) (.slice l1a s.ln l1c) (.slice d1a s.dn d1c)) rfl (set_else ((unhide HX8).kept (unhide HB1) (fun hq => by have := (unhide HFT) _ (.inr (.inr (.inr (.inl hq)))); omega)) (by omega)) infoSes rfl (by simp [Value.oneCell', sesC]) ?_; intro Y hy9 hf9; have HY := hide hy9; have FY := hide hf9; clear hy9 hf9))
  have v0 : Y.cell? ⟨w.heap.size + 1, 0, none⟩ = some (.string (s.queue (linesB bs)).pr) := cells_of (unhide HY) 0 _ rfl
  have v1 : Y.cell? ⟨w.heap.size + 1, 1, none⟩ = some (.int .i64 (s.queue (linesB bs)).cols) := cells_of (unhide HY) 1 _ rfl
  have v2 : Y.cell? ⟨w.heap.size + 1, 2, none⟩ = some (.int .i64 (s.queue (linesB bs)).rows) := cells_of (unhide HY) 2 _ rfl
  have v3 : Y.cell? ⟨w.heap.size + 1, 3, none⟩ = some (.string (s.queue (linesB bs)).la) := cells_of (unhide HY) 3 _ rfl
  have v4 : Y.cell? ⟨w.heap.size + 1, 4, none⟩ = some (.string (s.queue (linesB bs)).lb) := cells_of (unhide HY) 4 _ rfl
  have v5 : Y.cell? ⟨w.heap.size + 1, 5, none⟩ = some (.string (s.queue (linesB bs)).lc) := cells_of (unhide HY) 5 _ rfl
  have v6 : Y.cell? ⟨w.heap.size + 1, 6, none⟩ = some (.slice u1a s.un u1c) := cells_of (unhide HY) 6 _ rfl
  have v7 : Y.cell? ⟨w.heap.size + 1, 7, none⟩ = some (.slice h1a s.kh.length h1c) := cells_of (unhide HY) 7 _ rfl
  have v8 : Y.cell? ⟨w.heap.size + 1, 8, none⟩ = some (.bool (s.queue (linesB bs)).kp) := cells_of (unhide HY) 8 _ rfl
  have v9 : Y.cell? ⟨w.heap.size + 1, 9, none⟩ = some (.bool (s.queue (linesB bs)).nav) := cells_of (unhide HY) 9 _ rfl
  have v10 : Y.cell? ⟨w.heap.size + 1, 10, none⟩ = some (.slice p1a s.pn p1c) := cells_of (unhide HY) 10 _ rfl
  have v11 : Y.cell? ⟨w.heap.size + 1, 11, none⟩ = some (.int .i64 (s.queue (linesB bs)).at9) := cells_of (unhide HY) 11 _ rfl
  have v12 : Y.cell? ⟨w.heap.size + 1, 12, none⟩ = some (.string (s.queue (linesB bs)).dr) := cells_of (unhide HY) 12 _ rfl
  have v13 : Y.cell? ⟨w.heap.size + 1, 13, none⟩ = some (.bool (s.queue (linesB bs)).st) := cells_of (unhide HY) 13 _ rfl
  have v14 : Y.cell? ⟨w.heap.size + 1, 14, none⟩ = some (.slice a8 (s.queue (linesB bs)).qn c8) := cells_of (unhide HY) 14 _ rfl
  have v15 : Y.cell? ⟨w.heap.size + 1, 15, none⟩ = some (.slice l1a s.ln l1c) := cells_of (unhide HY) 15 _ rfl
  have v16 : Y.cell? ⟨w.heap.size + 1, 16, none⟩ = some (.slice d1a s.dn d1c) := cells_of (unhide HY) 16 _ rfl
  have F9 : Fr (fun q => (Value.slice q1a s.qn q1c).ownBlock = some q ∨ q = w1.heap.size ∨ q = w.heap.size + 1) w3 Y := (((unhide HX8).mono (fun q hq => .inl hq)).tr (Fr.setCell (S := fun q => (Value.slice q1a s.qn q1c).ownBlock = some q ∨ q = w1.heap.size ∨ q = w.heap.size + 1) (Fr.refl _ _) (a := ⟨w1.heap.size, 14, none⟩) (.inr (.inl rfl)) _)).tr ((unhide FY).mono (fun q hq => .inr (.inr hq)))
  have hnq : ∀ g, SesFoot (.slice u1a s.un u1c) (.slice h1a s.kh.length h1c) (.slice p1a s.pn p1c) (.slice q1a s.qn q1c) (.slice l1a s.ln l1c) (.slice d1a s.dn d1c) g → (Value.slice q1a s.qn q1c).ownBlock ≠ some g → ¬ ((Value.slice q1a s.qn q1c).ownBlock = some g ∨ g = w1.heap.size ∨ g = w.heap.size + 1) := fun g hg hn e9 => by
    have h2 := (unhide HFT) g hg
    rcases e9 with e9 | e9 | e9
    · exact hn e9
    · omega
    · omega
  obtain ⟨⟨_, _, a3', _, _⟩, ⟨_, b3', _, _⟩, ⟨c3', _, _⟩, ⟨d4', d5'⟩, _⟩ := pw6 (unhide HO).ap
  have hH := unhide HO
  have hz8 := (unhide HX8).size
  have ra : SesAt Y (s.queue (linesB bs)) (.slice u1a s.un u1c) (.slice h1a s.kh.length h1c) (.slice p1a s.pn p1c) (.slice a8 (s.queue (linesB bs)).qn c8) (.slice l1a s.ln l1c) (.slice d1a s.dn d1c) := ⟨(hH.un.fr F9 (fun g hg => hnq g (.inl hg) (fun e => a3' g hg e))).reads, ints_of_owns (F9.owns hH.kh (fun g hg => hnq g (.inr (.inl hg)) (fun e => b3' g hg e))), (hH.pa.fr F9 (fun g hg => hnq g (.inr (.inr (.inl hg))) (fun e => c3' g hg e))).reads, ?_, (hH.lo.fr F9 (fun g hg => hnq g (.inr (.inr (.inr (.inr (.inl hg))))) (fun e => d4' g e hg))).reads, (hH.dn.fr F9 (fun g hg => hnq g (.inr (.inr (.inr (.inr (.inr hg))))) (fun e => d5' g e hg))).reads⟩
  refine bodyPost_ret (v := .tuple #[sesV (s.queue (linesB bs)) (.slice u1a s.un u1c) (.slice h1a s.kh.length h1c) (.slice p1a s.pn p1c) (.slice a8 (s.queue (linesB bs)).qn c8) (.slice l1a s.ln l1c) (.slice d1a s.dn d1c), (.slice (some ⟨X.heap.size, 0, none⟩) 0 0), .int .i64 0]) (by simp [results, Tryz.results18, go_sem, sesV, v0, v1, v2, v3, v4, v5, v6, v7, v8, v9, v10, v11, v12, v13, v14, v15, v16]) rfl ⟨_, _, rfl, ⟨_, _, _, _, _, _, rfl, ra⟩, ⟨some ⟨X.heap.size, 0, none⟩, 0, rfl, by simp, fun h0 => by simp at h0⟩, F9.ext (unhide E1) (fun q hq => by
    rcases hq with hq | hq | hq
    · have := (unhide HFT) q (.inr (.inr (.inr (.inl hq)))); omega
    · omega
    · omega)⟩
  have h2 : Own1 w8 (w.heap.size + 1 + 1) 9 (.slice a8 (s.queue (linesB bs)).qn c8) (s.queue (linesB bs)).qn (fun j => .string ((s.queue (linesB bs)).qt j)) := own_strL (unhide HO8)
  have hq8 : ∀ g, (Value.slice a8 (s.queue (linesB bs)).qn c8).ownBlock = some g → g ≠ w1.heap.size ∧ g ≠ w.heap.size + 1 := fun g hg => by
    rcases (unhide HAT) g hg with h9 | h9
    · have := (unhide HFT) g (.inr (.inr (.inr (.inl h9)))); constructor <;> omega
    · constructor <;> omega
  exact ((h2.fr (Fr.setCell (S := fun q => q = w1.heap.size) (Fr.refl _ _) (a := ⟨w1.heap.size, 14, none⟩) rfl _) (fun g hg e => (hq8 g hg).1 e)).fr (unhide FY) (fun g hg e => (hq8 g hg).2 e)).reads
end Go.Proofs.YtgdadidppelgdaaGreatDoor

namespace Go.Proofs.YtgdadidppelgdaaGreatDoor
open Go.RowKit

theorem wpList_append_cr {ops : Array Oper} {rest : List Oper} {o : Oper} {a : Act} {w : World} {Q : Exit → Act → World → Prop} (hgd : o.guard = none) (s x : Operand) (hop : o.op = Op.call { callee := Callee.builtin Builtin.append, args := #[s, x], argTypes := #[25, 25] })
    (base : Nat) (v : Value) (L : List Int) (hs : a.eval s = v) (hcr : CR w base v L) (y : Value) (X : List Int) (hx : a.eval x = y) (hsrc : Src w 1 y X.length (X.map (Value.int .u8))) (hlen : L.length + X.length ≤ 1099511627776) (hbase : base ≤ w.heap.size)
    (h : ∀ v' w', CR w' base v' (L ++ X) → Fr (fun q => v.ownBlock = some q) w w' → wpList Tryz.prog ops Q rest (a.put o.dst v') w') : wpList Tryz.prog ops Q (o :: rest) a w :=
  wpList_plain hgd fun _ hK => wp_append_cr hgd s x hop base v L hs hcr y X hx hsrc hlen hbase fun v' w' h1 h2 => hK _ _ (h v' w' h1 h2)
set_option linter.unusedSimpArgs false in
set_option maxRecDepth 10000 in
set_option maxHeartbeats 8000000 in
theorem specPrint_rows (s : SS) (bs : List Int) (ba : Option Addr) (bc : Nat) (hby : Bytes bs) (u h p q l d : Value) (w : World) (hA : SesAt w s u h p q l d) (hin : IntsAt w .u8 (.slice ba bs.length bc) bs) (hz : s.Sz) (hok : SesP s) (hle : bs.length ≤ 5000) (hst : s.st = false) (hqq : (linesB bs).length ≠ 0) :
    Calls Tryz.prog 18 #[sesV s u h p q l d, (.slice ba bs.length bc)] w fun e w' => ∃ v0 v1, e = .returned (.tuple #[v0, v1, .int .i64 0]) ∧ (sesK (s.keep (s.rowsB bs))).R w' v0 ∧ (bytesK (s.printZ bs)).R w' v1 ∧ Ext w w' := by
  have hrb := rowsB_bd s bs hle
  have hol := hide (outR_len (s.rowsB bs))
  have hpl := s.paint_len_big hz.pr hz.la hz.lb hok.2.1
  have hel := hide (eraseL_len s.blk.n (s.blk.R : Int) s.blk.C (by have := (s.blk_lt hok.2.1).2; omega))
  have hobk := s.blk_ok hok.2.1
  have hcB := hide (fun W (hW : Ext w W) => l7Block_any s u h p q l d W (hA.ext hW) hz hok.2.1)
  have hcP := hide (fun (v : Value) (W' : World) (ho : Row1At W' v s.blk.n (fun i => .string (s.blk.tx i))) => specPaint_any v (s.blk.R : Int) s.blk.C s.blk.n s.blk.tx W' ho (by have := (s.blk_lt hok.2.1).2; omega) (by have := s.blk_slen_big hz.pr hz.la hz.lb hok.2.1; omega))
  have hcE := hide (fun (v : Value) (W' : World) (ho : Row1At W' v s.blk.n (fun i => .string (s.blk.tx i))) => specEraseOk_any v (s.blk.R : Int) s.blk.C s.blk.n s.blk.tx hobk W' ho (by have := (s.blk_lt hok.2.1).2; omega))
  have hcR := hide (fun (v : Value) (W : World) (hr : Row1At W v (linesB bs).length (fun j => .string (atR (linesB bs) j))) => l7Rows_any v (linesB bs).length (atR (linesB bs)) s.cols W hr (by have := linesB_bd bs; omega) (fun j hj => linesB_at bs hle j hj) (by have := linesB_bd bs; rw [slen_lsz]; omega))
  have hcO := hide (fun (v : Value) (W' : World) (hr : Row1At W' v (s.rowsB bs).length (fun j => .string (atR (s.rowsB bs) j))) => l7Out_any v (s.rowsB bs).length (atR (s.rowsB bs)) W' hr (by omega) (by rw [slen_lsz]; omega))
  have HOL : Hid (outL (atR (s.rowsB bs)) (s.rowsB bs).length = outR (s.rowsB bs)) := rfl
  rw [unhide HOL] at hcO
  have HLR : Hid (linesR s.cols (atR (linesB bs)) (linesB bs).length = (s.rowsB bs)) := rfl
  rw [unhide HLR] at hcR
  have HPT : Hid (paintL s.blk.n s.blk.tx (s.blk.R : Int) s.blk.C = s.paint) := rfl
  have hsl : s.ln ≤ 1048576 := hz.ln
  have HLZ := hide (fun j (hj : j < (s.rowsB bs).length) => lsz_at (s.rowsB bs) j hj)
  unfold blV at hcP hcE
  simp only [sesV_C] at hcB
  have hcC := hide (fun W (hW : Ext w W) => l7Copy_any s u h p q l d W (hA.ext hW) hz)
  have hcS := hide (fun W (hW : Ext w W) => specSessionOk_any s u h p q l d W (hA.ext hW) hz true (by simp [hok]))
  have hcL := hide (fun W (hW : Ext w W) => l7Lines_any (.slice ba bs.length bc) bs hby W (hin.ext hW) (by omega))
  have hnb9 : Hid ((linesB bs).length ≤ 5001) := hide (by have := linesB_bd bs; omega)
  have hqs := (queue_small hz hok).1
  have HST := hide hst
  clear hst
  simp only [sesV_C] at hcC hcS
  obtain ⟨ua, uc, ha, hc, pa, pc, qa, qc, la, lc, da, dc, rfl, rfl, rfl, rfl, rfl, rfl⟩ := hA.forms
  obtain ⟨M, hM⟩ : ∃ M, bs.length = M := ⟨_, rfl⟩
  have HM := hide hM
  clear hA hz hok hin hobk
  have HB0 : Hid (((w.alloc (.cells #[.string s.pr, .int .i64 s.cols, .int .i64 s.rows, .string s.la, .string s.lb, .string s.lc, .slice ua s.un uc, .slice ha s.kh.length hc, .bool s.kp, .bool s.nav, .slice pa s.pn pc, .int .i64 s.at9, .string s.dr, .bool s.st, .slice qa s.qn qc, .slice la s.ln lc, .slice da s.dn dc] 37)).alloc (.cells #[.string { data := #[] }, .int .i64 0, .int .i64 0, .string { data := #[] }, .string { data := #[] }, .string { data := #[] }, .slice none 0 0, .slice none 0 0, .bool false, .bool false, .slice none 0 0, .int .i64 0, .string { data := #[] }, .bool false, .slice none 0 0, .slice none 0 0, .slice none 0 0] 37)).heap[w.heap.size]? = some (.cells #[.string s.pr, .int .i64 s.cols, .int .i64 s.rows, .string s.la, .string s.lb, .string s.lc, .slice ua s.un uc, .slice ha s.kh.length hc, .bool s.kp, .bool s.nav, .slice pa s.pn pc, .int .i64 s.at9, .string s.dr, .bool s.st, .slice qa s.qn qc, .slice la s.ln lc, .slice da s.dn dc] 37 (0, 0))) := hide (((Ext.refl _).alloc _).kept (new_block w _))
  have HB1 : Hid (((w.alloc (.cells #[.string s.pr, .int .i64 s.cols, .int .i64 s.rows, .string s.la, .string s.lb, .string s.lc, .slice ua s.un uc, .slice ha s.kh.length hc, .bool s.kp, .bool s.nav, .slice pa s.pn pc, .int .i64 s.at9, .string s.dr, .bool s.st, .slice qa s.qn qc, .slice la s.ln lc, .slice da s.dn dc] 37)).alloc (.cells #[.string { data := #[] }, .int .i64 0, .int .i64 0, .string { data := #[] }, .string { data := #[] }, .string { data := #[] }, .slice none 0 0, .slice none 0 0, .bool false, .bool false, .slice none 0 0, .int .i64 0, .string { data := #[] }, .bool false, .slice none 0 0, .slice none 0 0, .slice none 0 0] 37)).heap[w.heap.size + 1]? = some (.cells #[.string { data := #[] }, .int .i64 0, .int .i64 0, .string { data := #[] }, .string { data := #[] }, .string { data := #[] }, .slice none 0 0, .slice none 0 0, .bool false, .bool false, .slice none 0 0, .int .i64 0, .string { data := #[] }, .bool false, .slice none 0 0, .slice none 0 0, .slice none 0 0] 37 (0, 0))) := hide (by have h := new_block (w.alloc (.cells #[.string s.pr, .int .i64 s.cols, .int .i64 s.rows, .string s.la, .string s.lb, .string s.lc, .slice ua s.un uc, .slice ha s.kh.length hc, .bool s.kp, .bool s.nav, .slice pa s.pn pc, .int .i64 s.at9, .string s.dr, .bool s.st, .slice qa s.qn qc, .slice la s.ln lc, .slice da s.dn dc] 37)) (.cells #[.string { data := #[] }, .int .i64 0, .int .i64 0, .string { data := #[] }, .string { data := #[] }, .string { data := #[] }, .slice none 0 0, .slice none 0 0, .bool false, .bool false, .slice none 0 0, .int .i64 0, .string { data := #[] }, .bool false, .slice none 0 0, .slice none 0 0, .slice none 0 0] 37); rw [show (w.alloc (.cells #[.string s.pr, .int .i64 s.cols, .int .i64 s.rows, .string s.la, .string s.lb, .string s.lc, .slice ua s.un uc, .slice ha s.kh.length hc, .bool s.kp, .bool s.nav, .slice pa s.pn pc, .int .i64 s.at9, .string s.dr, .bool s.st, .slice qa s.qn qc, .slice la s.ln lc, .slice da s.dn dc] 37)).heap.size = w.heap.size + 1 by simp] at h; exact h)
  have EV : Hid (Ext w ((w.alloc (.cells #[.string s.pr, .int .i64 s.cols, .int .i64 s.rows, .string s.la, .string s.lb, .string s.lc, .slice ua s.un uc, .slice ha s.kh.length hc, .bool s.kp, .bool s.nav, .slice pa s.pn pc, .int .i64 s.at9, .string s.dr, .bool s.st, .slice qa s.qn qc, .slice la s.ln lc, .slice da s.dn dc] 37)).alloc (.cells #[.string { data := #[] }, .int .i64 0, .int .i64 0, .string { data := #[] }, .string { data := #[] }, .string { data := #[] }, .slice none 0 0, .slice none 0 0, .bool false, .bool false, .slice none 0 0, .int .i64 0, .string { data := #[] }, .bool false, .slice none 0 0, .slice none 0 0, .slice none 0 0] 37))) := hide (((Ext.refl w).alloc _).alloc _)
  have ZV : Hid (((w.alloc (.cells #[.string s.pr, .int .i64 s.cols, .int .i64 s.rows, .string s.la, .string s.lb, .string s.lc, .slice ua s.un uc, .slice ha s.kh.length hc, .bool s.kp, .bool s.nav, .slice pa s.pn pc, .int .i64 s.at9, .string s.dr, .bool s.st, .slice qa s.qn qc, .slice la s.ln lc, .slice da s.dn dc] 37)).alloc (.cells #[.string { data := #[] }, .int .i64 0, .int .i64 0, .string { data := #[] }, .string { data := #[] }, .string { data := #[] }, .slice none 0 0, .slice none 0 0, .bool false, .bool false, .slice none 0 0, .int .i64 0, .string { data := #[] }, .bool false, .slice none 0 0, .slice none 0 0, .slice none 0 0] 37)).heap.size = w.heap.size + 1 + 1) := hide (by simp)
  unfold sesV at *
  rw [hM]
  clear hM
  go_enter Tryz.func18, Tryz.ntmps18
  go_wp2_with (refine wpList_load_blk rfl 37 _ rfl (w.heap.size) rfl _ _ _ _ (unhide HB0) Tryz.underlying37 rfl infoSes ?_)
  refine ((unhide hcC) _ (unhide EV)).mono ?_
  rintro e w1 ⟨u1, h1, p1, q1, l1, d1, rfl, hO, F1⟩
  obtain ⟨u1a, u1c, h1a, h1c, p1a, p1c, q1a, q1c, l1a, l1c, d1a, d1c, rfl, rfl, rfl, rfl, rfl, rfl⟩ := hO.reads.forms
  have E1 := hide ((unhide EV).trans F1)
  have Z1 := hide F1.size
  replace HB0 := hide (F1.kept (unhide HB0))
  replace HB1 := hide (F1.kept (unhide HB1))
  replace hO := hO.mono (b' := w.heap.size + 1 + 1) (by have := unhide ZV; omega)
  have HO := hide hO
  have HFT : Hid (∀ g, SesFoot (.slice u1a s.un u1c) (.slice h1a s.kh.length h1c) (.slice p1a s.pn p1c) (.slice q1a s.qn q1c) (.slice l1a s.ln l1c) (.slice d1a s.dn d1c) g → w.heap.size + 1 + 1 ≤ g ∧ g < w1.heap.size) := hide (fun g hg => hO.foot hg)
  clear hcC hO F1
  go_wp2_with (first
    | (refine wpList_store_blk rfl 37 _ _ rfl rfl (w1.heap.size) rfl _ _ (sesC s (.slice u1a s.un u1c) (.slice h1a s.kh.length h1c) (.slice p1a s.pn p1c) (.slice q1a s.qn q1c) (.slice l1a s.ln l1c) (.slice d1a s.dn d1c)) rfl (new_block w1 _) infoSes rfl (by simp [Value.oneCell', sesC]) ?_; intro X hx9 hf9; have HX := hide hx9; have FX := hide (hf9.ext ((Ext.refl w1).alloc _) (fun q hq => by omega)); replace HB0 := hide ((unhide FX).kept (unhide HB0)); have HB0a := hide (((Ext.refl X).alloc (.cells #[] 5)).kept (unhide HB0)); clear hx9 hf9)
    | (refine wpList_load_blk rfl 37 _ rfl (w.heap.size) rfl _ _ _ _ (unhide HB0a) Tryz.underlying37 rfl infoSes ?_))
  replace HB1 := hide ((unhide FX).kept (unhide HB1))
  replace HO := hide ((unhide HO).ext (unhide FX))
  replace E1 := hide ((unhide E1).trans (unhide FX))
  have hxz : w1.heap.size < X.heap.size := lt_of_block (unhide HX)
  refine ((unhide hcS) _ ((unhide E1).alloc _)).mono ?_
  rintro e w2 ⟨rfl, F20⟩
  have F2 : Ext X w2 := ((Ext.refl X).alloc _).trans F20
  replace HB0 := hide (F2.kept (unhide HB0))
  replace HB1 := hide (F2.kept (unhide HB1))
  replace HX := hide (F2.kept (unhide HX))
  replace HO := hide ((unhide HO).ext F2)
  replace E1 := hide ((unhide E1).trans F2)
  have z2 := F2.size
  have hlt : Hid (w.heap.size + 1 < w1.heap.size ∧ w1.heap.size < w2.heap.size) := hide (by have h1 := unhide ZV; have h2 := unhide Z1; omega)
  clear F2 F20 FX hcS EV ZV Z1 HB0a
  have b1 : ¬ ((5000 : Int) < (M : Int)) := by have := unhide HM; omega
  rw [unhide HM] at hcL
  go_wp2_with fail
  refine ((unhide hcL) w2 (unhide E1)).mono ?_
  rintro e w3 ⟨v3, rfl, o3, F3⟩
  obtain ⟨a3, c3, rfl⟩ := o3.slice
  have HR3 := hide o3
  replace HB0 := hide (F3.kept (unhide HB0))
  replace HB1 := hide (F3.kept (unhide HB1))
  replace HX := hide (F3.kept (unhide HX))
  replace HO := hide ((unhide HO).ext F3)
  replace E1 := hide ((unhide E1).trans F3)
  have z3 := F3.size
  replace hlt : Hid (w.heap.size + 1 < w1.heap.size ∧ w1.heap.size < w3.heap.size) := hide (by have := unhide hlt; omega)
  clear o3 F3 hcL
  have k13 : w3.cell? ⟨w.heap.size, 13, none⟩ = some (.bool false) := by have h9 : w3.cell? ⟨w.heap.size, 13, none⟩ = some (.bool s.st) := cells_of (unhide HB0) 13 _ rfl; rw [unhide HST] at h9; exact h9
  have k14 : w3.cell? ⟨w.heap.size, 14, none⟩ = some (.slice qa s.qn qc) := cells_of (unhide HB0) 14 _ rfl
  obtain ⟨N, hN⟩ : ∃ N, (linesB bs).length = N := ⟨_, rfl⟩
  have HN := hide hN
  have hnb := unhide hnb9
  rw [hN] at hnb hqq
  rw [hN]
  clear hN
  have b2 : ¬ ((N : Int) = 0) := by omega
  have k1 : w3.cell? ⟨w.heap.size, 1, none⟩ = some (.int .i64 s.cols) := cells_of (unhide HB0) 1 _ rfl
  have hcR3 := hide ((unhide hcR) _ w3 (unhide HR3).reads)
  rw [unhide HN] at hcR3
  go_wp2_with fail
  refine (unhide hcR3).mono ?_
  rintro e w4 ⟨v4, rfl, o4, F4⟩
  obtain ⟨a4, c4, rfl⟩ := o4.slice
  have HR4 := hide o4
  have HB04 := hide (F4.kept (unhide HB0))
  have E4 := hide ((unhide E1).trans F4)
  have G4 := hide F4
  have z4 := F4.size
  clear o4 F4 k13 k14 k1 hcR3 hcR b2
  have tokA : True := trivial
  go_wp2_with (first
    | (refine wpList_load_blk rfl 37 _ rfl (w.heap.size) rfl _ _ _ _ (unhide HB04) Tryz.underlying37 rfl infoSes ?_)
    | (go_at_call 29; refine ((unhide hcB) _ (unhide E4)).mono ?_; rintro e w5 ⟨v5, rfl, o5, F5⟩; have hc5 := hide ((unhide hcE) _ _ o5.reads); obtain ⟨a5, c5, rfl⟩ := o5.slice; have G5 := hide F5; have z5 := F5.size; clear o5 F5)
    | (go_at_call 49; refine (unhide hc5).mono ?_; rintro e w6 ⟨g6, c6, rfl, cv6, lo6, hi6, F6⟩; have HC6 : Hid (CR w6 w4.heap.size (.slice (some ⟨g6, 0, none⟩) (eraseL s.blk.n (s.blk.R : Int) s.blk.C).length c6) (eraseL s.blk.n (s.blk.R : Int) s.blk.C)) := hide (.inl ⟨g6, c6, rfl, cv6, by omega, hi6⟩); have G6 := hide ((unhide G5).trans F6); have z6 := F6.size; have HR6 := hide ((unhide HR4).ext (unhide G6)); clear cv6 lo6 hi6 F6)
    | (go_at_call 46; refine ((unhide hcO) _ _ (unhide HR6).reads).mono ?_; rintro e w7 ⟨v7, rfl, o7, F7⟩; obtain ⟨a7, c7, rfl⟩ := owns_slice o7; have HS7 := hide (Src.ints (ints_of_owns o7)); have HC7 := hide ((unhide HC6).ext F7); have G7 := hide ((unhide G6).trans F7); have z7 := F7.size; clear o7 F7)
    | (at_builtin; go_must (refine wpList_append_cr rfl _ _ rfl w4.heap.size (.slice (some ⟨g6, 0, none⟩) (eraseL s.blk.n (s.blk.R : Int) s.blk.C).length c6) (eraseL s.blk.n (s.blk.R : Int) s.blk.C) rfl (unhide HC7) (.slice a7 (outR (s.rowsB bs)).length c7) (outR (s.rowsB bs)) rfl (unhide HS7) (by have := unhide hol; have := unhide hel; omega) (by have := (unhide G7).size; omega) ?_); intro v8 w8 cr8 F8; obtain ⟨L8, hL8⟩ : ∃ L8, L8 = (eraseL s.blk.n (s.blk.R : Int) s.blk.C) ++ outR (s.rowsB bs) := ⟨_, rfl⟩; rw [← hL8] at cr8; obtain ⟨a8, c8, rfl⟩ := cr8.slice; have HL8 := hide hL8; have HC8 := hide cr8; have HF8 : Hid (Fr (fun q => w4.heap.size ≤ q) w4 w8) := hide ((Fr.of_ext (unhide G7)).tr (F8.mono (fun q hq => ((unhide HC7).lt q hq).1))); clear cr8 F8 hL8))
  have hl := unhide hlt
  have HXV := hide ((unhide HF8).kept ((unhide G4).kept (unhide HX)) (by omega))
  have HB0V := hide ((unhide HF8).kept (unhide HB04) (by omega))
  have HB1V := hide ((unhide HF8).kept ((unhide G4).kept (unhide HB1)) (by omega))
  have HOV := hide (((unhide HO).ext (unhide G4)).fr (unhide HF8) (fun g hg e9 => by have := (unhide HFT) g hg; omega))
  have HRV := hide ((unhide HR4).fr (unhide HF8) (fun g hg e9 => by have := ((unhide HR4).lt g hg).2; omega))
  have EVV := hide ((unhide HF8).ext (unhide E4) (fun q hq => by have := (unhide E4).size; omega))
  have zV2 := (unhide HF8).size
  have HKP := hide (fun (W : World) (hW : Ext w8 W) => l7Keep_any s u1a h1a p1a q1a l1a d1a u1c h1c p1c q1c l1c d1c (.slice a4 (s.rowsB bs).length c4) (s.rowsB bs) (w.heap.size + 1 + 1) W (own1_strL ((unhide HOV).lo.ext hW)) (by have := hW.size; omega) (by omega) (by omega) (fun j hj => by have := (unhide HLZ) j hj; omega)
    (fun W' f => (((unhide HRV).ext hW).fr f (fun g hg e9 => by
      have h1 := ((unhide HRV).lt g hg)
      rcases e9 with e9 | e9
      · have h2 := (unhide HFT) g (.inr (.inr (.inr (.inr (.inl e9))))); omega
      · have := hW.size; omega)).reads))
  simp only [sesV_C] at HKP
  refine wp_region_held_drew (S := fun W => W.heap[w1.heap.size]? = some (.cells (sesC s (.slice u1a s.un u1c) (.slice h1a s.kh.length h1c) (.slice p1a s.pn p1c) (.slice q1a s.qn q1c) (.slice l1a s.ln l1c) (.slice d1a s.dn d1c)) 37 (0, 0)) ∧ W.heap[w.heap.size]? = some (.cells #[.string s.pr, .int .i64 s.cols, .int .i64 s.rows, .string s.la, .string s.lb, .string s.lc, .slice ua s.un uc, .slice ha s.kh.length hc, .bool s.kp, .bool s.nav, .slice pa s.pn pc, .int .i64 s.at9, .string s.dr, .bool s.st, .slice qa s.qn qc, .slice la s.ln lc, .slice da s.dn dc] 37 (0, 0))) (by kernel_rfl) ⟨unhide HXV, unhide HB0V⟩ (fun hHeld => ?_)
  refine wpAnyH_take (i := 0) (v := .agg (sesC s (.slice u1a s.un u1c) (.slice h1a s.kh.length h1c) (.slice p1a s.pn p1c) (.slice q1a s.qn q1c) (.slice l1a s.ln l1c) (.slice d1a s.dn d1c))) rfl (by kernel_rfl) (by kernel_rfl) (by kernel_rfl) (fun _ _ _ h => h) (Or.inl ⟨by rfl, ?_⟩) (by assumption) ?_
  · intro w' hSw; exact yields_load_blk 37 _ rfl (w1.heap.size) rfl _ _ _ _ hSw.1 Tryz.underlying37 rfl infoSes
  simp only [Act.put, List.getElem_toArray, List.getElem_cons_succ, List.getElem_cons_zero, List.setIfInBounds_toArray, List.set_cons_zero, List.set_cons_succ]
  refine wpAnyH_take (i := 1) (v := .slice a4 (s.rowsB bs).length c4) rfl (by kernel_rfl) (by kernel_rfl) (by kernel_rfl) (fun _ _ _ h => h) (Or.inl ⟨by rfl, ?_⟩) (by assumption) ?_
  · intro w' hSw; go_simp <;> with_reducible rfl
  simp only [Act.put, List.getElem_toArray, List.getElem_cons_succ, List.getElem_cons_zero, List.setIfInBounds_toArray, List.set_cons_zero, List.set_cons_succ]
  refine wpAnyH_take (i := 3) (v := .slice a8 L8.length c8) rfl (by kernel_rfl) (by kernel_rfl) (by kernel_rfl) (fun _ _ _ h => h) (Or.inl ⟨by rfl, ?_⟩) (by assumption) ?_
  · intro w' hSw; go_simp <;> with_reducible rfl
  simp only [Act.put, List.getElem_toArray, List.getElem_cons_succ, List.getElem_cons_zero, List.setIfInBounds_toArray, List.set_cons_zero, List.set_cons_succ]
  refine wpAnyH_take (i := 4) (v := .agg #[.string s.pr, .int .i64 s.cols, .int .i64 s.rows, .string s.la, .string s.lb, .string s.lc, .slice ua s.un uc, .slice ha s.kh.length hc, .bool s.kp, .bool s.nav, .slice pa s.pn pc, .int .i64 s.at9, .string s.dr, .bool s.st, .slice qa s.qn qc, .slice la s.ln lc, .slice da s.dn dc]) rfl (by kernel_rfl) (by kernel_rfl) (by kernel_rfl) (fun _ _ _ h => h) (Or.inl ⟨by rfl, ?_⟩) (by assumption) ?_
  · intro w' hSw; exact yields_load_blk 37 _ rfl (w.heap.size) rfl _ _ _ _ hSw.2 Tryz.underlying37 rfl infoSes
  simp only [Act.put, List.getElem_toArray, List.getElem_cons_succ, List.getElem_cons_zero, List.setIfInBounds_toArray, List.set_cons_zero, List.set_cons_succ]
  refine wpAnyH_ready (rs := [2]) (by kernel_rfl) (by simp) ?_
  refine AllReadyH.cons rfl (fun K hK => ?_) AllReadyH.nil
  go_simp
  go_wp2_with (go_at_call 45; refine ((unhide HKP) _ (Ext.refl w8).drew).mono ?_; rintro e w9 ⟨ka, kc, rfl, ok9, bk9, F9⟩; have HK9 := hide ok9; have HF9 := hide ((Fr.of_ext (Ext.refl w8).drew).tr F9); clear ok9 bk9 F9)
  have hb4 : Hid (∀ g, (g < w1.heap.size ∧ (Value.slice l1a s.ln l1c).ownBlock ≠ some g) ∨ (w1.heap.size ≤ g ∧ g < w8.heap.size) → ¬ ((Value.slice l1a s.ln l1c).ownBlock = some g ∨ w8.heap.size ≤ g)) := hide (fun g hg e9 => by
    rcases e9 with e9 | e9
    · have h2 := (unhide HFT) g (.inr (.inr (.inr (.inr (.inl e9)))))
      rcases hg with ⟨_, h3⟩ | h3
      · exact h3 e9
      · omega
    · omega)
  have hlo : Hid (∀ g, g < w.heap.size + 1 + 1 → ¬ ((Value.slice l1a s.ln l1c).ownBlock = some g ∨ w8.heap.size ≤ g)) := hide (fun g hg => (unhide hb4) g (.inl ⟨by omega, fun e => by have h2 := (unhide HFT) g (.inr (.inr (.inr (.inr (.inl e))))); omega⟩))
  have HX9 := hide ((unhide HF9).kept (unhide HXV) ((unhide hb4) _ (.inr ⟨Nat.le_refl _, lt_of_block (unhide HXV)⟩)))
  have HB9 := hide ((unhide HF9).kept (unhide HB0V) ((unhide hlo) _ (by omega)))
  have HC9 := hide ((unhide HF9).kept (unhide HB1V) ((unhide hlo) _ (by omega)))
  have E9 := hide ((unhide HF9).ext (unhide EVV) (fun q hq => by
    rcases hq with hq | hq
    · have h2 := (unhide HFT) q (.inr (.inr (.inr (.inr (.inl hq))))); omega
    · have h3 : w8.heap.size ≤ q := hq; have := (unhide EVV).size; omega))
  have HC89 := hide ((unhide HC8).fr (unhide HF9) (fun g hg => (unhide hb4) g (.inr ⟨by have := ((unhide HC8).lt g hg).1; omega, ((unhide HC8).lt g hg).2⟩)))
  have z9 : w8.heap.size ≤ w9.heap.size := (unhide HF9).size
  refine hK.out _ _ ⟨unhide HX9, unhide HB9⟩ (fun hHeld => ?_)
  clear hK K
  refine wpAnyH_ready (rs := [5]) (by kernel_rfl) (by simp) ?_
  refine AllReadyH.cons rfl (fun K hK => ?_) AllReadyH.nil
  go_simp
  go_wp2_with (go_at_call 29; refine ((unhide hcB) _ (unhide E9)).mono ?_; rintro e w10 ⟨v10, rfl, o10, F10⟩; have hc10 := hide ((unhide hcP) _ _ o10.reads); obtain ⟨a10, c10, rfl⟩ := o10.slice; have G10 := hide F10; clear o10 F10)
  refine hK.out _ _ ⟨(unhide G10).kept (unhide HX9), (unhide G10).kept (unhide HB9)⟩ (fun hHeld => ?_)
  clear hK K
  refine wpAnyH_ready (rs := [6]) (by kernel_rfl) (by simp) ?_
  refine AllReadyH.cons rfl (fun K hK => ?_) AllReadyH.nil
  go_simp
  go_wp2_with (go_at_call 28; refine (unhide hc10).mono ?_; rintro e w11 ⟨v11, rfl, o11, F11⟩; rw [unhide HPT] at o11; obtain ⟨a11, c11, rfl⟩ := owns_slice o11; have HS11 := hide (Src.ints (ints_of_owns o11)); have G11 := hide ((unhide G10).trans F11); clear o11 F11)
  refine hK.out _ _ ⟨(unhide G11).kept (unhide HX9), (unhide G11).kept (unhide HB9)⟩ (fun hHeld => ?_)
  clear hK K
  refine wpAnyH_ready (rs := [7]) (by kernel_rfl) (by simp) ?_
  refine AllReadyH.cons rfl (fun K hK => ?_) AllReadyH.nil
  refine wp_append_cr rfl _ _ rfl w4.heap.size (.slice a8 L8.length c8) L8 rfl ((unhide HC89).ext (unhide G11)) (.slice a11 s.paint.length c11) s.paint rfl (unhide HS11) (by have := unhide hol; have := unhide hel; rw [unhide HL8, List.length_append]; omega) (by have := (unhide G11).size; omega) ?_
  intro v12 w12 cr12 F12
  obtain ⟨a12, c12, rfl⟩ := cr12.slice
  have HC12 := hide cr12
  have HF12 : Hid (Fr (fun q => w4.heap.size ≤ q) w9 w12) := hide ((Fr.of_ext (unhide G11)).tr (F12.mono (fun q hq => ((unhide HC89).lt q hq).1)))
  have HF12b := hide ((Fr.of_ext (S := fun q => (Value.slice a8 L8.length c8).ownBlock = some q) (unhide G11)).tr F12)
  have x9 := lt_of_block (unhide HX9)
  have hg12 : Hid (∀ g, g < w4.heap.size → ¬ (w4.heap.size ≤ g)) := hide (fun g h e => by omega)
  refine hK.out _ _ ⟨(unhide HF12).kept (unhide HX9) (by omega), (unhide HF12).kept (unhide HB9) (by omega)⟩ (fun hHeld => ?_)
  clear hK K cr12 F12
  refine wpAnyH_ready (rs := [8]) (by kernel_rfl) (by simp) ?_
  refine AllReadyH.cons rfl (fun K hK => ?_) AllReadyH.nil
  refine wp_store_blk 37 _ _ rfl rfl (w.heap.size + 1) rfl _ _ (sesC s (.slice u1a s.un u1c) (.slice h1a s.kh.length h1c) (.slice p1a s.pn p1c) (.slice q1a s.qn q1c) (.slice ka (s.ln + (s.rowsB bs).length) kc) (.slice d1a s.dn d1c)) rfl ((unhide HF12).kept (unhide HC9) (by omega)) infoSes rfl (by simp [Value.oneCell', sesC]) ?_
  intro Y hy9 hf9
  have HY := hide hy9
  have FY := hide hf9
  refine hK.out _ _ ⟨hf9.kept ((unhide HF12).kept (unhide HX9) (by omega)) (by omega), hf9.kept ((unhide HF12).kept (unhide HB9) (by omega)) (by omega)⟩ (fun hHeld => ?_)
  clear hK K hy9 hf9
  refine wpAnyH_take (i := 9) (v := ?_) rfl (by kernel_rfl) (by kernel_rfl) (by kernel_rfl) (fun _ _ _ h => h) (Or.inl ⟨by rfl, ?_⟩) (by assumption) ?_
  rotate_left
  · intro w' hSw; go_simp <;> with_reducible rfl
  simp only [Act.put, List.getElem_toArray, List.getElem_cons_succ, List.getElem_cons_zero, List.setIfInBounds_toArray, List.set_cons_zero, List.set_cons_succ]
  refine wpAnyH_take (i := 10) (v := ?_) rfl (by kernel_rfl) (by kernel_rfl) (by kernel_rfl) (fun _ _ _ h => h) (Or.inl ⟨by rfl, ?_⟩) (by assumption) ?_
  rotate_left
  · intro w' hSw; go_simp <;> with_reducible rfl
  simp only [Act.put, List.getElem_toArray, List.getElem_cons_succ, List.getElem_cons_zero, List.setIfInBounds_toArray, List.set_cons_zero, List.set_cons_succ]
  refine wpAnyH_done (by kernel_rfl) ?_ _
  go_wp2
  have F13 : Fr (fun q => (Value.slice l1a s.ln l1c).ownBlock = some q ∨ q = w.heap.size + 1 ∨ w4.heap.size ≤ q) w8 Y := (((unhide HF9).mono (fun q hq => hq.elim .inl (fun h => .inr (.inr (by have h3 : w8.heap.size ≤ q := h; omega))))).tr ((unhide HF12).mono (fun q hq => .inr (.inr hq)))).tr ((unhide FY).mono (fun q hq => .inr (.inl hq)))
  have hnq : ∀ g, SesFoot (.slice u1a s.un u1c) (.slice h1a s.kh.length h1c) (.slice p1a s.pn p1c) (.slice q1a s.qn q1c) (.slice l1a s.ln l1c) (.slice d1a s.dn d1c) g → (Value.slice l1a s.ln l1c).ownBlock ≠ some g → ¬ ((Value.slice l1a s.ln l1c).ownBlock = some g ∨ g = w.heap.size + 1 ∨ w4.heap.size ≤ g) := fun g hg hn e9 => by
    have h2 := (unhide HFT) g hg
    rcases e9 with e9 | e9 | e9
    · exact hn e9
    · omega
    · omega
  obtain ⟨⟨_, _, _, a4', _⟩, ⟨_, _, b4', _⟩, ⟨_, c4', _⟩, ⟨d4', _⟩, e5'⟩ := pw6 (unhide HOV).ap
  have hH := unhide HOV
  have ra : SesAt Y (s.keep (s.rowsB bs)) (.slice u1a s.un u1c) (.slice h1a s.kh.length h1c) (.slice p1a s.pn p1c) (.slice q1a s.qn q1c) (.slice ka (s.ln + (s.rowsB bs).length) kc) (.slice d1a s.dn d1c) := ⟨(hH.un.fr F13 (fun g hg => hnq g (.inl hg) (fun e => a4' g hg e))).reads, ints_of_owns (F13.owns hH.kh (fun g hg => hnq g (.inr (.inl hg)) (fun e => b4' g hg e))), (hH.pa.fr F13 (fun g hg => hnq g (.inr (.inr (.inl hg))) (fun e => c4' g hg e))).reads, (hH.qu.fr F13 (fun g hg => hnq g (.inr (.inr (.inr (.inl hg)))) (fun e => d4' g hg e))).reads, ?_, (hH.dn.fr F13 (fun g hg => hnq g (.inr (.inr (.inr (.inr (.inr hg))))) (fun e => e5' g e hg))).reads⟩
  have v0 : Y.cell? ⟨w.heap.size + 1, 0, none⟩ = some (.string (s.keep (s.rowsB bs)).pr) := cells_of (unhide HY) 0 _ rfl
  have v1 : Y.cell? ⟨w.heap.size + 1, 1, none⟩ = some (.int .i64 (s.keep (s.rowsB bs)).cols) := cells_of (unhide HY) 1 _ rfl
  have v2 : Y.cell? ⟨w.heap.size + 1, 2, none⟩ = some (.int .i64 (s.keep (s.rowsB bs)).rows) := cells_of (unhide HY) 2 _ rfl
  have v3 : Y.cell? ⟨w.heap.size + 1, 3, none⟩ = some (.string (s.keep (s.rowsB bs)).la) := cells_of (unhide HY) 3 _ rfl
  have v4 : Y.cell? ⟨w.heap.size + 1, 4, none⟩ = some (.string (s.keep (s.rowsB bs)).lb) := cells_of (unhide HY) 4 _ rfl
  have v5 : Y.cell? ⟨w.heap.size + 1, 5, none⟩ = some (.string (s.keep (s.rowsB bs)).lc) := cells_of (unhide HY) 5 _ rfl
  have v6 : Y.cell? ⟨w.heap.size + 1, 6, none⟩ = some (.slice u1a s.un u1c) := cells_of (unhide HY) 6 _ rfl
  have v7 : Y.cell? ⟨w.heap.size + 1, 7, none⟩ = some (.slice h1a s.kh.length h1c) := cells_of (unhide HY) 7 _ rfl
  have v8 : Y.cell? ⟨w.heap.size + 1, 8, none⟩ = some (.bool (s.keep (s.rowsB bs)).kp) := cells_of (unhide HY) 8 _ rfl
  have v9 : Y.cell? ⟨w.heap.size + 1, 9, none⟩ = some (.bool (s.keep (s.rowsB bs)).nav) := cells_of (unhide HY) 9 _ rfl
  have v10 : Y.cell? ⟨w.heap.size + 1, 10, none⟩ = some (.slice p1a s.pn p1c) := cells_of (unhide HY) 10 _ rfl
  have v11 : Y.cell? ⟨w.heap.size + 1, 11, none⟩ = some (.int .i64 (s.keep (s.rowsB bs)).at9) := cells_of (unhide HY) 11 _ rfl
  have v12 : Y.cell? ⟨w.heap.size + 1, 12, none⟩ = some (.string (s.keep (s.rowsB bs)).dr) := cells_of (unhide HY) 12 _ rfl
  have v13 : Y.cell? ⟨w.heap.size + 1, 13, none⟩ = some (.bool (s.keep (s.rowsB bs)).st) := cells_of (unhide HY) 13 _ rfl
  have v14 : Y.cell? ⟨w.heap.size + 1, 14, none⟩ = some (.slice q1a s.qn q1c) := cells_of (unhide HY) 14 _ rfl
  have v15 : Y.cell? ⟨w.heap.size + 1, 15, none⟩ = some (.slice ka (s.ln + (s.rowsB bs).length) kc) := cells_of (unhide HY) 15 _ rfl
  have v16 : Y.cell? ⟨w.heap.size + 1, 16, none⟩ = some (.slice d1a s.dn d1c) := cells_of (unhide HY) 16 _ rfl
  refine bodyPost_ret (v := .tuple #[sesV (s.keep (s.rowsB bs)) (.slice u1a s.un u1c) (.slice h1a s.kh.length h1c) (.slice p1a s.pn p1c) (.slice q1a s.qn q1c) (.slice ka (s.ln + (s.rowsB bs).length) kc) (.slice d1a s.dn d1c), .slice a12 (L8 ++ s.paint).length c12, .int .i64 0]) (by simp [results, Tryz.results18, go_sem, sesV, v0, v1, v2, v3, v4, v5, v6, v7, v8, v9, v10, v11, v12, v13, v14, v15, v16]) rfl ⟨_, _, rfl, ⟨_, _, _, _, _, _, rfl, ra⟩, ?_, (unhide FY).ext ((unhide HF12).ext (unhide E9) (fun q hq => by have := (unhide E4).size; omega)) (fun q hq => by omega)⟩
  · have e9 : s.printZ bs = L8 ++ s.paint := by rw [unhide HL8]; rfl
    rw [e9]
    exact ((unhide HC12).rb.fr (unhide FY) (fun g hg e9 => by have := ((unhide HC12).lt g hg).1; omega)).1
  · have h1 := unhide HK9
    rw [logL_keep] at h1
    have h2 : Own1 w9 (w.heap.size + 1 + 1) 9 (.slice ka (s.ln + (s.rowsB bs).length) kc) (s.keep (s.rowsB bs)).ln (fun i => .string ((s.keep (s.rowsB bs)).lt i)) := own_strL h1
    exact ((h2.fr (unhide HF12b) (fun g hg e9 => by
      obtain ⟨ys, h5, _⟩ := h2
      obtain ⟨c5, k5⟩ := owns_kind h5 hg
      obtain ⟨c6, z6, k6⟩ := (unhide HC89).kind e9
      rw [k5] at k6
      injection k6 with k6
      injection k6 with _ k6
      exact absurd k6 (by decide))).fr (unhide FY) (fun g hg e9 => by have := (h2.lt g hg).1; omega)).reads
end Go.Proofs.YtgdadidppelgdaaGreatDoor
