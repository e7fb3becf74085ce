import Derived.Test.YtgdadidppelgdaaGreatDoorEraC
namespace Go.Proofs.YtgdadidppelgdaaGreatDoor
open Go.RowKit

set_option maxRecDepth 10000 in
set_option maxHeartbeats 4000000 in
theorem implPrint_any (s s' : SS) (bs : List Int) (ba : Option Addr) (bc : Nat) (hby : Bytes bs) (zs : List Int) (cd : Int) (hR : PrintR s bs s' zs cd) (u h p q l d : Value) (w : World) (hA : SesAt w s u h p q l d) (hin : IntsAt w .u8 (.slice ba bs.length bc) bs) (hz : s.Sz) (hT : Tabs3 w) (hlo : 4 < w.heap.size) (hPw : PowT w) :
    Calls Tryz.prog 20 #[sesV s u h p q l d, .slice ba bs.length bc] w fun e w' => ∃ v0 S0 v1 S1, e = .returned (.tuple #[v0, v1, .int .i64 cd]) ∧ (sesK s').O w' w.heap.size S0 v0 ∧ (bytesK zs).O w' w.heap.size S1 v1 ∧ (∀ g, S0 g → ¬ S1 g) ∧ Ext w w' := by
  have hcW := hide (fun W (hW : Ext w W) => wake_any s u h p q l d W (hA.ext hW) hz)
  have hcL := hide (fun (P : Nat) (ua ha pa qa la da : Option Addr) (uc hc pc qc lc dc : Nat) (W0 W : World) (EW : Ext w W0) (E0 : Ext W0 W) (hP0 : W0.heap.size ≤ P) (hL : W.heap[P]? = some (.cells (lvC (sesC s (.slice ua s.un uc) (.slice ha s.kh.length hc) (.slice pa s.pn pc) (.slice qa s.qn qc) (.slice la s.ln lc) (.slice da s.dn dc)) lv0) 85 (0, 0))) (hO : OwnSes W W0.heap.size s (.slice ua s.un uc) (.slice ha s.kh.length hc) (.slice pa s.pn pc) (.slice qa s.qn qc) (.slice la s.ln lc) (.slice da s.dn dc)) (hnf : ¬ SesFoot (.slice ua s.un uc) (.slice ha s.kh.length hc) (.slice pa s.pn pc) (.slice qa s.qn qc) (.slice la s.ln lc) (.slice da s.dn dc) P) => livePrint_any P s bs ba bc ua ha pa qa la da uc hc pc qc lc dc W0 W E0 hP0 hL hO hnf hby (hin.ext EW) hz (hT.ext EW) (Nat.lt_of_lt_of_le hlo EW.size) (hPw.keep (EW.heap hlo)))
  obtain ⟨ua, uc, ha, hc, pa, pc, qa, qc, la, lc, da, dc, rfl, rfl, rfl, rfl, rfl, rfl⟩ := hA.forms
  have HR := hide hR
  clear hA hz hT hPw hlo hR hin
  have HB0 : Hid (((w.alloc (.cells #[.string s.pr, .int .i64 s.cols, .int .i64 s.rows, .string s.la, .string s.lb, .string s.lc, .slice ua s.un uc, .slice ha s.kh.length hc, .bool s.kp, .bool s.nav, .slice pa s.pn pc, .int .i64 s.at9, .string s.dr, .bool s.st, .slice qa s.qn qc, .slice la s.ln lc, .slice da s.dn dc] 37)).alloc (.cells #[.string { data := #[] }, .int .i64 0, .int .i64 0, .string { data := #[] }, .string { data := #[] }, .string { data := #[] }, .slice none 0 0, .slice none 0 0, .bool false, .bool false, .slice none 0 0, .int .i64 0, .string { data := #[] }, .bool false, .slice none 0 0, .slice none 0 0, .slice none 0 0] 37)).heap[w.heap.size]? = some (.cells #[.string s.pr, .int .i64 s.cols, .int .i64 s.rows, .string s.la, .string s.lb, .string s.lc, .slice ua s.un uc, .slice ha s.kh.length hc, .bool s.kp, .bool s.nav, .slice pa s.pn pc, .int .i64 s.at9, .string s.dr, .bool s.st, .slice qa s.qn qc, .slice la s.ln lc, .slice da s.dn dc] 37 (0, 0))) := hide (((Ext.refl _).alloc _).kept (new_block w _))
  have HB1 : Hid (((w.alloc (.cells #[.string s.pr, .int .i64 s.cols, .int .i64 s.rows, .string s.la, .string s.lb, .string s.lc, .slice ua s.un uc, .slice ha s.kh.length hc, .bool s.kp, .bool s.nav, .slice pa s.pn pc, .int .i64 s.at9, .string s.dr, .bool s.st, .slice qa s.qn qc, .slice la s.ln lc, .slice da s.dn dc] 37)).alloc (.cells #[.string { data := #[] }, .int .i64 0, .int .i64 0, .string { data := #[] }, .string { data := #[] }, .string { data := #[] }, .slice none 0 0, .slice none 0 0, .bool false, .bool false, .slice none 0 0, .int .i64 0, .string { data := #[] }, .bool false, .slice none 0 0, .slice none 0 0, .slice none 0 0] 37)).heap[w.heap.size + 1]? = some (.cells #[.string { data := #[] }, .int .i64 0, .int .i64 0, .string { data := #[] }, .string { data := #[] }, .string { data := #[] }, .slice none 0 0, .slice none 0 0, .bool false, .bool false, .slice none 0 0, .int .i64 0, .string { data := #[] }, .bool false, .slice none 0 0, .slice none 0 0, .slice none 0 0] 37 (0, 0))) := hide (by have h := new_block (w.alloc (.cells #[.string s.pr, .int .i64 s.cols, .int .i64 s.rows, .string s.la, .string s.lb, .string s.lc, .slice ua s.un uc, .slice ha s.kh.length hc, .bool s.kp, .bool s.nav, .slice pa s.pn pc, .int .i64 s.at9, .string s.dr, .bool s.st, .slice qa s.qn qc, .slice la s.ln lc, .slice da s.dn dc] 37)) (.cells #[.string { data := #[] }, .int .i64 0, .int .i64 0, .string { data := #[] }, .string { data := #[] }, .string { data := #[] }, .slice none 0 0, .slice none 0 0, .bool false, .bool false, .slice none 0 0, .int .i64 0, .string { data := #[] }, .bool false, .slice none 0 0, .slice none 0 0, .slice none 0 0] 37); rw [show (w.alloc (.cells #[.string s.pr, .int .i64 s.cols, .int .i64 s.rows, .string s.la, .string s.lb, .string s.lc, .slice ua s.un uc, .slice ha s.kh.length hc, .bool s.kp, .bool s.nav, .slice pa s.pn pc, .int .i64 s.at9, .string s.dr, .bool s.st, .slice qa s.qn qc, .slice la s.ln lc, .slice da s.dn dc] 37)).heap.size = w.heap.size + 1 by simp] at h; exact h)
  have EV : Hid (Ext w ((w.alloc (.cells #[.string s.pr, .int .i64 s.cols, .int .i64 s.rows, .string s.la, .string s.lb, .string s.lc, .slice ua s.un uc, .slice ha s.kh.length hc, .bool s.kp, .bool s.nav, .slice pa s.pn pc, .int .i64 s.at9, .string s.dr, .bool s.st, .slice qa s.qn qc, .slice la s.ln lc, .slice da s.dn dc] 37)).alloc (.cells #[.string { data := #[] }, .int .i64 0, .int .i64 0, .string { data := #[] }, .string { data := #[] }, .string { data := #[] }, .slice none 0 0, .slice none 0 0, .bool false, .bool false, .slice none 0 0, .int .i64 0, .string { data := #[] }, .bool false, .slice none 0 0, .slice none 0 0, .slice none 0 0] 37))) := hide (((Ext.refl w).alloc _).alloc _)
  have ZV : Hid (((w.alloc (.cells #[.string s.pr, .int .i64 s.cols, .int .i64 s.rows, .string s.la, .string s.lb, .string s.lc, .slice ua s.un uc, .slice ha s.kh.length hc, .bool s.kp, .bool s.nav, .slice pa s.pn pc, .int .i64 s.at9, .string s.dr, .bool s.st, .slice qa s.qn qc, .slice la s.ln lc, .slice da s.dn dc] 37)).alloc (.cells #[.string { data := #[] }, .int .i64 0, .int .i64 0, .string { data := #[] }, .string { data := #[] }, .string { data := #[] }, .slice none 0 0, .slice none 0 0, .bool false, .bool false, .slice none 0 0, .int .i64 0, .string { data := #[] }, .bool false, .slice none 0 0, .slice none 0 0, .slice none 0 0] 37)).heap.size = w.heap.size + 1 + 1) := hide (by simp)
  unfold sesV at *
  go_enter Tryz.func20, Tryz.ntmps20
  go_wp2_with (refine wpList_load_blk rfl 37 _ rfl (w.heap.size) rfl _ _ _ _ (unhide HB0) Tryz.underlying37 rfl infoSes ?_)
  refine ((unhide hcW) _ (unhide EV)).mono ?_
  rintro e w1 ⟨P, u1, h1, p1, q1, l1, d1, rfl, hL, hO, hP, hnf, F1⟩
  obtain ⟨u1a, u1c, h1a, h1c, p1a, p1c, q1a, q1c, l1a, l1c, d1a, d1c, rfl, rfl, rfl, rfl, rfl, rfl⟩ := hO.reads.forms
  have hcl := hide ((unhide hcL) P u1a h1a p1a q1a l1a d1a u1c h1c p1c q1c l1c d1c _ w1 (unhide EV) F1 hP hL hO hnf)
  have HPP := hide hP
  have E1 := hide ((unhide EV).trans F1)
  replace HB1 := hide (F1.kept (unhide HB1))
  have Z1 := hide F1.size
  clear hcL hcW hL hO hnf hP F1 HB0
  go_wp2_with fail
  refine (unhide hcl).mono ?_
  rintro e w2 ⟨v2, zs2, s2, cd2, u2, h2, p2, q2, l2, d2, r, rfl, hrel, ho, hS2, hP2, hap, F2⟩
  obtain ⟨rfl, rfl, rfl⟩ := printR_det hrel (unhide HR)
  obtain ⟨u3a, u3c, h3a, h3c, p3a, p3c, q3a, q3c, l3a, l3c, d3a, d3c, rfl, rfl, rfl, rfl, rfl, rfl⟩ := hS2.reads.forms
  obtain ⟨a2, c2, rfl⟩ := owns_slice ho
  have B1w := hide (F2.kept (unhide HB1) (by have h2 := unhide ZV; omega))
  have HP2 := hide hP2
  have HO2 := hide ho
  have HS2 := hide hS2
  have HF2 := hide F2
  have HAP := hide hap
  clear hP2 ho F2 hS2 hap hrel HR
  go_wp2_with (first
    | (refine wpList_load_part rfl 37 _ rfl P 0 rfl _ _ (sesC s' (.slice u3a s'.un u3c) (.slice h3a s'.kh.length h3c) (.slice p3a s'.pn p3c) (.slice q3a s'.qn q3c) (.slice l3a s'.ln l3c) (.slice d3a s'.dn d3c)) _ _ (unhide HP2) lvC_ses Tryz.underlying37 rfl infoSes ?_)
    | (refine wpList_store_blk rfl 37 _ _ rfl rfl (w.heap.size + 1) rfl _ _ (sesC s' (.slice u3a s'.un u3c) (.slice h3a s'.kh.length h3c) (.slice p3a s'.pn p3c) (.slice q3a s'.qn q3c) (.slice l3a s'.ln l3c) (.slice d3a s'.dn d3c)) rfl (unhide B1w) infoSes rfl (by simp [Value.oneCell', sesC]) ?_; intro X hx9 hf9; have HX := hide hx9; have FX := hide hf9; clear hx9 hf9))
  have v0 : X.cell? ⟨w.heap.size + 1, 0, none⟩ = some (.string s'.pr) := cells_of (unhide HX) 0 _ rfl
  have v1 : X.cell? ⟨w.heap.size + 1, 1, none⟩ = some (.int .i64 s'.cols) := cells_of (unhide HX) 1 _ rfl
  have v2 : X.cell? ⟨w.heap.size + 1, 2, none⟩ = some (.int .i64 s'.rows) := cells_of (unhide HX) 2 _ rfl
  have v3 : X.cell? ⟨w.heap.size + 1, 3, none⟩ = some (.string s'.la) := cells_of (unhide HX) 3 _ rfl
  have v4 : X.cell? ⟨w.heap.size + 1, 4, none⟩ = some (.string s'.lb) := cells_of (unhide HX) 4 _ rfl
  have v5 : X.cell? ⟨w.heap.size + 1, 5, none⟩ = some (.string s'.lc) := cells_of (unhide HX) 5 _ rfl
  have v6 : X.cell? ⟨w.heap.size + 1, 6, none⟩ = some (.slice u3a s'.un u3c) := cells_of (unhide HX) 6 _ rfl
  have v7 : X.cell? ⟨w.heap.size + 1, 7, none⟩ = some (.slice h3a s'.kh.length h3c) := cells_of (unhide HX) 7 _ rfl
  have v8 : X.cell? ⟨w.heap.size + 1, 8, none⟩ = some (.bool s'.kp) := cells_of (unhide HX) 8 _ rfl
  have v9 : X.cell? ⟨w.heap.size + 1, 9, none⟩ = some (.bool s'.nav) := cells_of (unhide HX) 9 _ rfl
  have v10 : X.cell? ⟨w.heap.size + 1, 10, none⟩ = some (.slice p3a s'.pn p3c) := cells_of (unhide HX) 10 _ rfl
  have v11 : X.cell? ⟨w.heap.size + 1, 11, none⟩ = some (.int .i64 s'.at9) := cells_of (unhide HX) 11 _ rfl
  have v12 : X.cell? ⟨w.heap.size + 1, 12, none⟩ = some (.string s'.dr) := cells_of (unhide HX) 12 _ rfl
  have v13 : X.cell? ⟨w.heap.size + 1, 13, none⟩ = some (.bool s'.st) := cells_of (unhide HX) 13 _ rfl
  have v14 : X.cell? ⟨w.heap.size + 1, 14, none⟩ = some (.slice q3a s'.qn q3c) := cells_of (unhide HX) 14 _ rfl
  have v15 : X.cell? ⟨w.heap.size + 1, 15, none⟩ = some (.slice l3a s'.ln l3c) := cells_of (unhide HX) 15 _ rfl
  have v16 : X.cell? ⟨w.heap.size + 1, 16, none⟩ = some (.slice d3a s'.dn d3c) := cells_of (unhide HX) 16 _ rfl
  have zV := unhide ZV
  have z1 := unhide Z1
  refine bodyPost_ret (v := .tuple #[sesV s' (.slice u3a s'.un u3c) (.slice h3a s'.kh.length h3c) (.slice p3a s'.pn p3c) (.slice q3a s'.qn q3c) (.slice l3a s'.ln l3c) (.slice d3a s'.dn d3c), .slice a2 zs.length c2, .int .i64 cd]) (by simp [results, Tryz.results20, go_sem, sesV, v0, v1, v2, v3, v4, v5, v6, v7, v8, v9, v10, v11, v12, v13, v14, v15, v16]) rfl ⟨_, _, _, _, rfl, sesK_own (((unhide HS2).fr (unhide FX) (fun g hg e9 => by have := ((unhide HS2).foot hg).1; omega)).mono (by omega)), bytesK_own (owns_mono ((unhide FX).owns (unhide HO2) (fun g hg e9 => by have := ((unhide HO2).lt g hg).1; omega)) (by omega)), fun g hg hg2 => (unhide HAP) g hg hg2, (unhide FX).ext ((unhide HF2).ext (unhide E1) (fun q hq => by omega)) (fun q hq => by omega)⟩
end Go.Proofs.YtgdadidppelgdaaGreatDoor
