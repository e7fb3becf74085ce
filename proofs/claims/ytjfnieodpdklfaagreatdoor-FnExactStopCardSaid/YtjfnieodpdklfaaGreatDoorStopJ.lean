import Derived.Test.YtjfnieodpdklfaaGreatDoorStopI
namespace Go.Proofs.YtjfnieodpdklfaaGreatDoor
open Go.RowKit

set_option maxRecDepth 10000 in
set_option maxHeartbeats 4000000 in
theorem liveStop_any (P : Nat) (s : SS) (ua ha pa qa la da : Option Addr) (uc hc pc qc lc dc : Nat) (w0 w : World) (E0 : Ext w0 w) (hP0 : w0.heap.size ≤ P)
    (hL : w.heap[P]? = some (.cells (lvC (sesC s (.slice ua s.un uc) (.slice ha s.kh.length hc) (.slice pa s.pn pc) (.slice qa s.qn qc) (.slice la s.ln lc) (.slice da s.dn dc)) lv0) 85 (0, 0))) (hO : OwnSes w w0.heap.size s (.slice ua s.un uc) (.slice ha s.kh.length hc) (.slice pa s.pn pc) (.slice qa s.qn qc) (.slice la s.ln lc) (.slice da s.dn dc)) (hnf : ¬ SesFoot (.slice ua s.un uc) (.slice ha s.kh.length hc) (.slice pa s.pn pc) (.slice qa s.qn qc) (.slice la s.ln lc) (.slice da s.dn dc) P) (hz : s.Sz) (hT : Tabs3 w0) (hlo : 3 < w0.heap.size) (hPw : PowT w0) :
    Calls Tryz.prog 41 #[.pointer (some ⟨P, 0, none⟩)] w fun e w' => (∃ a c r, e = .returned (.tuple #[.slice a (eraseL s.blk.n (s.blk.R : Int) s.blk.C).length c, .int .i64 0]) ∧ (SesP s ∧ s.st = false) ∧ w'.ownsRow w.heap.size 5 1 (.slice a (eraseL s.blk.n (s.blk.R : Int) s.blk.C).length c) (eraseL s.blk.n (s.blk.R : Int) s.blk.C).length ((eraseL s.blk.n (s.blk.R : Int) s.blk.C).map (Value.int .u8)) ∧ w'.heap[P]? = some (.cells (lvC (sesC s.stop (.slice ua s.un uc) (.slice ha s.kh.length hc) (.slice pa s.pn pc) (.slice qa s.qn qc) (.slice la s.ln lc) (.slice da s.dn dc)) r) 85 (0, 0)) ∧ Fr (fun q => q = P ∨ w.heap.size ≤ q) w w')
      ∨ (∃ c u h p q l d r, e = .returned (.tuple #[.slice none 0 0, .int .i64 c]) ∧ (c = 1 ∧ ¬ SesP s ∨ SesP s ∧ s.st = true ∧ c = 3) ∧ w'.heap[P]? = some (.cells (lvC (sesC s u h p q l d) r) 85 (0, 0)) ∧ OwnSes w' w.heap.size s u h p q l d ∧ ¬ SesFoot u h p q l d P ∧ Fr (fun q => q = P ∨ w.heap.size ≤ q) w w') := by
  have hPs : P < w.heap.size := lt_of_block hL
  have EA := (Ext.refl w).alloc (.cells #[.pointer (some ⟨P, 0, none⟩)] 66)
  have hf := frame_any P s ua ha pa qa la da uc hc pc qc lc dc 75 #[.pointer (some ⟨w.heap.size, 0, none⟩)] (fun sc bs _ => s.st = false ∧ sc = sesC s.stop (.slice ua s.un uc) (.slice ha s.kh.length hc) (.slice pa s.pn pc) (.slice qa s.qn qc) (.slice la s.ln lc) (.slice da s.dn dc) ∧ bs = eraseL s.blk.n (s.blk.R : Int) s.blk.C) (fun c => s.st = true ∧ c = 3) w0 (w.alloc (.cells #[.pointer (some ⟨P, 0, none⟩)] 66)) (E0.trans EA) hP0 (EA.kept hL) (hO.ext EA) hnf hz hT hlo hPw (fun _ _ _ _ h _ => h)
    (fun W => Go.MuLone.run_callFunc_enter Tryz.func75 (by kernel_rfl) rfl _ _)
    (fun hk W B ob qb nb bv hE hF hob hB hP hWr hbv => by
      obtain ⟨bva, bvc, rfl⟩ := hbv.slice
      have hs1 : (w.alloc (.cells #[.pointer (some ⟨P, 0, none⟩)] 66)).heap.size = w.heap.size + 1 := by simp
      refine stop1_any P w.heap.size s ua ha pa qa la da uc hc pc qc lc dc s.blk.n s.blk.tx (s.blk.R : Int) s.blk.C B ob qb nb bva bvc W (hF.kept (new_block w _) (by rw [hs1]; omega)) ⟨by omega, by omega, by omega, by omega, by omega, fun e => ?_, fun e => ?_, by omega⟩ (s.blk_ok hk.2.1) (by have := (s.blk_lt hk.2.1).2; omega) hP hWr hbv
      · have h4 := hWr.q
        rw [← e, cell_of_row W P 0 _ _ _ hP] at h4
        simp [lvC, sesC, seqF] at h4
      · have h4 := hWr.nn
        rw [← e, cell_of_row W P 0 _ _ _ hP] at h4
        simp [lvC, sesC, anyF] at h4)
  have HF := hide hf
  have hmf : ∀ (fn : Fn) (first cap : Array Value) (w : World), (Instr.makeFunc fn first cap).run Tryz.prog w = .ok (.func fn first cap) w := fun _ _ _ _ => rfl
  have hs1 : (w.alloc (.cells #[.pointer (some ⟨P, 0, none⟩)] 66)).heap.size = w.heap.size + 1 := by simp
  have HS1 := hide hs1
  have HEA := hide EA
  clear hf hL hO hnf hz hT hPw hs1 EA
  go_enter Tryz.func41, Tryz.ntmps41
  go_wp2_with fail
  refine (unhide HF).mono ?_
  rintro e w2 (⟨v, sc, bs, r, rfl, hk, ho, hP2, hsz, ⟨hst, rfl, rfl⟩, F2⟩ | ⟨c, u, h, p, q, l, d, r, rfl, hk, hP2, ho, hnf2, F2⟩)
  · obtain ⟨a2, c2, rfl⟩ := owns_slice ho
    have HO := hide ho
    have HP2 := hide hP2
    have HF2 := hide F2
    have HK := hide (And.intro hk hst)
    clear ho hP2 F2 hk hst hsz
    go_wp2
    exact bodyPost_ret (v := .tuple #[.slice a2 (eraseL s.blk.n (s.blk.R : Int) s.blk.C).length c2, .int .i64 0]) (by simp [results, Tryz.results41, go_sem]) rfl (.inl ⟨a2, c2, r, rfl, unhide HK, owns_mono (unhide HO) (by have := unhide HS1; omega), unhide HP2, (Fr.of_ext (unhide HEA)).tr ((unhide HF2).mono (fun q hq => by have := unhide HS1; omega))⟩)
  · have HO := hide ho
    have HP2 := hide hP2
    have HF2 := hide F2
    have HK := hide hk
    have HN := hide hnf2
    clear ho hP2 F2 hk hnf2
    go_wp2
    exact bodyPost_ret (v := .tuple #[.slice none 0 0, .int .i64 c]) (by simp [results, Tryz.results41, go_sem]) rfl (.inr ⟨c, u, h, p, q, l, d, r, rfl, unhide HK, unhide HP2, (unhide HO).mono (by have := unhide HS1; omega), unhide HN, (Fr.of_ext (unhide HEA)).tr ((unhide HF2).mono (fun q hq => by have := unhide HS1; omega))⟩)
/-- What a stop answers. -/
def StopR (s s' : SS) (zs : List Int) (c : Int) : Prop := (SesP s ∧ s.st = false ∧ s' = s.stop ∧ zs = eraseL s.blk.n (s.blk.R : Int) s.blk.C ∧ c = 0) ∨ (SesP s ∧ s.st = true ∧ s' = s ∧ zs = [] ∧ c = 3) ∨ (¬ SesP s ∧ s' = s ∧ zs = [] ∧ c = 1)
set_option maxRecDepth 10000 in
set_option maxHeartbeats 4000000 in
theorem implStop_any (s s' : SS) (zs : List Int) (cd : Int) (hR : StopR s s' zs cd) (u h p q l d : Value) (w : World) (hA : SesAt w s u h p q l d) (hz : s.Sz) (hT : Tabs3 w) (hlo : 3 < w.heap.size) (hPw : PowT w) :
    Calls Tryz.prog 16 #[sesV s u h p q l d] w fun e w' => ∃ v0 S0 v1 S1, e = .returned (.tuple #[v0, v1, .int .i64 cd]) ∧ (sesK s').O w' w.heap.size S0 v0 ∧ (bytesK zs).O w' w.heap.size S1 v1 ∧ (∀ g, S0 g → ¬ S1 g) ∧ Ext w w' := by
  have hcW := hide (fun W (hW : Ext w W) => wake_any s u h p q l d W (hA.ext hW) hz)
  have hcL := hide (fun (P : Nat) (ua ha pa qa la da : Option Addr) (uc hc pc qc lc dc : Nat) (W0 W : World) (EW : Ext w W0) (E0 : Ext W0 W) (hP0 : W0.heap.size ≤ P) (hL : W.heap[P]? = some (.cells (lvC (sesC s (.slice ua s.un uc) (.slice ha s.kh.length hc) (.slice pa s.pn pc) (.slice qa s.qn qc) (.slice la s.ln lc) (.slice da s.dn dc)) lv0) 85 (0, 0))) (hO : OwnSes W W0.heap.size s (.slice ua s.un uc) (.slice ha s.kh.length hc) (.slice pa s.pn pc) (.slice qa s.qn qc) (.slice la s.ln lc) (.slice da s.dn dc)) (hnf : ¬ SesFoot (.slice ua s.un uc) (.slice ha s.kh.length hc) (.slice pa s.pn pc) (.slice qa s.qn qc) (.slice la s.ln lc) (.slice da s.dn dc) P) => liveStop_any P s ua ha pa qa la da uc hc pc qc lc dc W0 W E0 hP0 hL hO hnf hz (hT.ext EW) (Nat.lt_of_lt_of_le hlo EW.size) (hPw.keep (EW.heap hlo)))
  obtain ⟨ua, uc, ha, hc, pa, pc, qa, qc, la, lc, da, dc, rfl, rfl, rfl, rfl, rfl, rfl⟩ := hA.forms
  have HR := hide hR
  clear hA hz hT hPw hlo hR
  have HB0 : Hid (((w.alloc (.cells #[.string s.pr, .int .i64 s.cols, .int .i64 s.rows, .string s.la, .string s.lb, .string s.lc, .slice ua s.un uc, .slice ha s.kh.length hc, .bool s.kp, .bool s.nav, .slice pa s.pn pc, .int .i64 s.at9, .string s.dr, .bool s.st, .slice qa s.qn qc, .slice la s.ln lc, .slice da s.dn dc] 30)).alloc (.cells #[.string { data := #[] }, .int .i64 0, .int .i64 0, .string { data := #[] }, .string { data := #[] }, .string { data := #[] }, .slice none 0 0, .slice none 0 0, .bool false, .bool false, .slice none 0 0, .int .i64 0, .string { data := #[] }, .bool false, .slice none 0 0, .slice none 0 0, .slice none 0 0] 30)).heap[w.heap.size]? = some (.cells #[.string s.pr, .int .i64 s.cols, .int .i64 s.rows, .string s.la, .string s.lb, .string s.lc, .slice ua s.un uc, .slice ha s.kh.length hc, .bool s.kp, .bool s.nav, .slice pa s.pn pc, .int .i64 s.at9, .string s.dr, .bool s.st, .slice qa s.qn qc, .slice la s.ln lc, .slice da s.dn dc] 30 (0, 0))) := hide (((Ext.refl _).alloc _).kept (new_block w _))
  have HB1 : Hid (((w.alloc (.cells #[.string s.pr, .int .i64 s.cols, .int .i64 s.rows, .string s.la, .string s.lb, .string s.lc, .slice ua s.un uc, .slice ha s.kh.length hc, .bool s.kp, .bool s.nav, .slice pa s.pn pc, .int .i64 s.at9, .string s.dr, .bool s.st, .slice qa s.qn qc, .slice la s.ln lc, .slice da s.dn dc] 30)).alloc (.cells #[.string { data := #[] }, .int .i64 0, .int .i64 0, .string { data := #[] }, .string { data := #[] }, .string { data := #[] }, .slice none 0 0, .slice none 0 0, .bool false, .bool false, .slice none 0 0, .int .i64 0, .string { data := #[] }, .bool false, .slice none 0 0, .slice none 0 0, .slice none 0 0] 30)).heap[w.heap.size + 1]? = some (.cells #[.string { data := #[] }, .int .i64 0, .int .i64 0, .string { data := #[] }, .string { data := #[] }, .string { data := #[] }, .slice none 0 0, .slice none 0 0, .bool false, .bool false, .slice none 0 0, .int .i64 0, .string { data := #[] }, .bool false, .slice none 0 0, .slice none 0 0, .slice none 0 0] 30 (0, 0))) := hide (by have h := new_block (w.alloc (.cells #[.string s.pr, .int .i64 s.cols, .int .i64 s.rows, .string s.la, .string s.lb, .string s.lc, .slice ua s.un uc, .slice ha s.kh.length hc, .bool s.kp, .bool s.nav, .slice pa s.pn pc, .int .i64 s.at9, .string s.dr, .bool s.st, .slice qa s.qn qc, .slice la s.ln lc, .slice da s.dn dc] 30)) (.cells #[.string { data := #[] }, .int .i64 0, .int .i64 0, .string { data := #[] }, .string { data := #[] }, .string { data := #[] }, .slice none 0 0, .slice none 0 0, .bool false, .bool false, .slice none 0 0, .int .i64 0, .string { data := #[] }, .bool false, .slice none 0 0, .slice none 0 0, .slice none 0 0] 30); rw [show (w.alloc (.cells #[.string s.pr, .int .i64 s.cols, .int .i64 s.rows, .string s.la, .string s.lb, .string s.lc, .slice ua s.un uc, .slice ha s.kh.length hc, .bool s.kp, .bool s.nav, .slice pa s.pn pc, .int .i64 s.at9, .string s.dr, .bool s.st, .slice qa s.qn qc, .slice la s.ln lc, .slice da s.dn dc] 30)).heap.size = w.heap.size + 1 by simp] at h; exact h)
  have EV : Hid (Ext w ((w.alloc (.cells #[.string s.pr, .int .i64 s.cols, .int .i64 s.rows, .string s.la, .string s.lb, .string s.lc, .slice ua s.un uc, .slice ha s.kh.length hc, .bool s.kp, .bool s.nav, .slice pa s.pn pc, .int .i64 s.at9, .string s.dr, .bool s.st, .slice qa s.qn qc, .slice la s.ln lc, .slice da s.dn dc] 30)).alloc (.cells #[.string { data := #[] }, .int .i64 0, .int .i64 0, .string { data := #[] }, .string { data := #[] }, .string { data := #[] }, .slice none 0 0, .slice none 0 0, .bool false, .bool false, .slice none 0 0, .int .i64 0, .string { data := #[] }, .bool false, .slice none 0 0, .slice none 0 0, .slice none 0 0] 30))) := hide (((Ext.refl w).alloc _).alloc _)
  have ZV : Hid (((w.alloc (.cells #[.string s.pr, .int .i64 s.cols, .int .i64 s.rows, .string s.la, .string s.lb, .string s.lc, .slice ua s.un uc, .slice ha s.kh.length hc, .bool s.kp, .bool s.nav, .slice pa s.pn pc, .int .i64 s.at9, .string s.dr, .bool s.st, .slice qa s.qn qc, .slice la s.ln lc, .slice da s.dn dc] 30)).alloc (.cells #[.string { data := #[] }, .int .i64 0, .int .i64 0, .string { data := #[] }, .string { data := #[] }, .string { data := #[] }, .slice none 0 0, .slice none 0 0, .bool false, .bool false, .slice none 0 0, .int .i64 0, .string { data := #[] }, .bool false, .slice none 0 0, .slice none 0 0, .slice none 0 0] 30)).heap.size = w.heap.size + 1 + 1) := hide (by simp)
  unfold sesV at *
  go_enter Tryz.func16, Tryz.ntmps16
  go_wp2_with (refine wpList_load_blk rfl 30 _ rfl (w.heap.size) rfl _ _ _ _ (unhide HB0) Tryz.underlying30 rfl infoSes ?_)
  refine ((unhide hcW) _ (unhide EV)).mono ?_
  rintro e w1 ⟨P, u1, h1, p1, q1, l1, d1, rfl, hL, hO, hP, hnf, F1⟩
  obtain ⟨u1a, u1c, h1a, h1c, p1a, p1c, q1a, q1c, l1a, l1c, d1a, d1c, rfl, rfl, rfl, rfl, rfl, rfl⟩ := hO.reads.forms
  have hcl := hide ((unhide hcL) P u1a h1a p1a q1a l1a d1a u1c h1c p1c q1c l1c d1c _ w1 (unhide EV) F1 hP hL hO hnf)
  have HO := hide hO
  have HN := hide hnf
  have HPP := hide hP
  have HPs := hide (lt_of_block hL)
  have E1 := hide ((unhide EV).trans F1)
  replace HB1 := hide (F1.kept (unhide HB1))
  have Z1 := hide F1.size
  clear hcL hcW hL hO hnf hP F1 HB0
  go_wp2_with fail
  refine (unhide hcl).mono ?_
  rintro e w2 (⟨a2, c2, r, rfl, hk, ho, hP2, F2⟩ | ⟨c, u3, h3, p3, q3, l3, d3, r, rfl, hk, hP2, ho, hnf2, F2⟩)
  · have B1w := hide (F2.kept (unhide HB1) (by have h1 := unhide HPP; have h2 := unhide ZV; have h3 := unhide Z1; omega))
    have HP2 := hide hP2
    have HK := hide hk
    have HO2 := hide ho
    have HF2 := hide F2
    clear hP2 hk ho F2
    go_wp2_with (first
      | (refine wpList_load_part rfl 30 _ rfl P 0 rfl _ _ (sesC s.stop (.slice u1a s.un u1c) (.slice h1a s.kh.length h1c) (.slice p1a s.pn p1c) (.slice q1a s.qn q1c) (.slice l1a s.ln l1c) (.slice d1a s.dn d1c)) _ _ (unhide HP2) lvC_ses Tryz.underlying30 rfl infoSes ?_)
      | (refine wpList_store_blk rfl 30 _ _ rfl rfl (w.heap.size + 1) rfl _ _ (sesC s.stop (.slice u1a s.un u1c) (.slice h1a s.kh.length h1c) (.slice p1a s.pn p1c) (.slice q1a s.qn q1c) (.slice l1a s.ln l1c) (.slice d1a s.dn d1c)) rfl (unhide B1w) infoSes rfl (by simp [Value.oneCell', sesC]) ?_; intro X hx9 hf9; have HX := hide hx9; have FX := hide hf9; clear hx9 hf9))
    have v0 : X.cell? ⟨w.heap.size + 1, 0, none⟩ = some (.string s.stop.pr) := cells_of (unhide HX) 0 _ rfl
    have v1 : X.cell? ⟨w.heap.size + 1, 1, none⟩ = some (.int .i64 s.stop.cols) := cells_of (unhide HX) 1 _ rfl
    have v2 : X.cell? ⟨w.heap.size + 1, 2, none⟩ = some (.int .i64 s.stop.rows) := cells_of (unhide HX) 2 _ rfl
    have v3 : X.cell? ⟨w.heap.size + 1, 3, none⟩ = some (.string s.stop.la) := cells_of (unhide HX) 3 _ rfl
    have v4 : X.cell? ⟨w.heap.size + 1, 4, none⟩ = some (.string s.stop.lb) := cells_of (unhide HX) 4 _ rfl
    have v5 : X.cell? ⟨w.heap.size + 1, 5, none⟩ = some (.string s.stop.lc) := cells_of (unhide HX) 5 _ rfl
    have v6 : X.cell? ⟨w.heap.size + 1, 6, none⟩ = some (.slice u1a s.un u1c) := cells_of (unhide HX) 6 _ rfl
    have v7 : X.cell? ⟨w.heap.size + 1, 7, none⟩ = some (.slice h1a s.kh.length h1c) := cells_of (unhide HX) 7 _ rfl
    have v8 : X.cell? ⟨w.heap.size + 1, 8, none⟩ = some (.bool s.stop.kp) := cells_of (unhide HX) 8 _ rfl
    have v9 : X.cell? ⟨w.heap.size + 1, 9, none⟩ = some (.bool s.stop.nav) := cells_of (unhide HX) 9 _ rfl
    have v10 : X.cell? ⟨w.heap.size + 1, 10, none⟩ = some (.slice p1a s.pn p1c) := cells_of (unhide HX) 10 _ rfl
    have v11 : X.cell? ⟨w.heap.size + 1, 11, none⟩ = some (.int .i64 s.stop.at9) := cells_of (unhide HX) 11 _ rfl
    have v12 : X.cell? ⟨w.heap.size + 1, 12, none⟩ = some (.string s.stop.dr) := cells_of (unhide HX) 12 _ rfl
    have v13 : X.cell? ⟨w.heap.size + 1, 13, none⟩ = some (.bool s.stop.st) := cells_of (unhide HX) 13 _ rfl
    have v14 : X.cell? ⟨w.heap.size + 1, 14, none⟩ = some (.slice q1a s.qn q1c) := cells_of (unhide HX) 14 _ rfl
    have v15 : X.cell? ⟨w.heap.size + 1, 15, none⟩ = some (.slice l1a s.ln l1c) := cells_of (unhide HX) 15 _ rfl
    have v16 : X.cell? ⟨w.heap.size + 1, 16, none⟩ = some (.slice d1a s.dn d1c) := cells_of (unhide HX) 16 _ rfl
    obtain ⟨rfl, rfl, rfl⟩ : s' = s.stop ∧ zs = eraseL s.blk.n (s.blk.R : Int) s.blk.C ∧ cd = 0 := by
      rcases unhide HR with ⟨_, _, e1, e2, e3⟩ | ⟨_, e1, _⟩ | ⟨e1, _⟩
      · exact ⟨e1, e2, e3⟩
      · rw [(unhide HK).2] at e1; cases e1
      · exact absurd (unhide HK).1 e1
    have zV := unhide ZV
    have z1 := unhide Z1
    have hp1 := unhide HPP
    have HO3 : OwnSes X w.heap.size s (.slice u1a s.un u1c) (.slice h1a s.kh.length h1c) (.slice p1a s.pn p1c) (.slice q1a s.qn q1c) (.slice l1a s.ln l1c) (.slice d1a s.dn d1c) := (((unhide HO).fr (unhide HF2) (fun g hg e9 => by rcases e9 with e9 | e9; (subst e9; exact unhide HN hg); (have := ((unhide HO).foot hg).2; omega))).fr (unhide FX) (fun g hg e9 => by have := ((unhide HO).foot hg).1; omega)).mono (by omega)
    refine bodyPost_ret (v := .tuple #[sesV s.stop (.slice u1a s.un u1c) (.slice h1a s.kh.length h1c) (.slice p1a s.pn p1c) (.slice q1a s.qn q1c) (.slice l1a s.ln l1c) (.slice d1a s.dn d1c), .slice a2 (eraseL s.blk.n (s.blk.R : Int) s.blk.C).length c2, .int .i64 0]) (by simp [results, Tryz.results16, go_sem, sesV, v0, v1, v2, v3, v4, v5, v6, v7, v8, v9, v10, v11, v12, v13, v14, v15, v16]) rfl ⟨_, _, _, _, rfl, sesK_own (s := s.stop) ⟨HO3.un, HO3.kh, HO3.pa, HO3.qu, HO3.lo, HO3.dn, HO3.ap⟩, bytesK_own (owns_mono ((unhide FX).owns (unhide HO2) (fun g hg e9 => by have := ((unhide HO2).lt g hg).1; omega)) (by omega)), fun g hg hg2 => by have h1 := ((unhide HO).foot hg).2; have h2 := ((unhide HO2).lt g hg2).1; omega, (unhide FX).ext ((unhide HF2).ext (unhide E1) (fun q hq => by omega)) (fun q hq => by omega)⟩
  · obtain ⟨u3a, u3c, h3a, h3c, p3a, p3c, q3a, q3c, l3a, l3c, d3a, d3c, rfl, rfl, rfl, rfl, rfl, rfl⟩ := ho.reads.forms
    have B1w := hide (F2.kept (unhide HB1) (by have h1 := unhide HPP; have h2 := unhide ZV; have h3 := unhide Z1; omega))
    have HP2 := hide hP2
    have HK := hide hk
    have HO2 := hide ho
    have HF2 := hide F2
    clear hP2 hk ho F2 hnf2
    go_wp2_with (first
      | (refine wpList_load_part rfl 30 _ rfl P 0 rfl _ _ (sesC s (.slice u3a s.un u3c) (.slice h3a s.kh.length h3c) (.slice p3a s.pn p3c) (.slice q3a s.qn q3c) (.slice l3a s.ln l3c) (.slice d3a s.dn d3c)) _ _ (unhide HP2) lvC_ses Tryz.underlying30 rfl infoSes ?_)
      | (refine wpList_store_blk rfl 30 _ _ rfl rfl (w.heap.size + 1) rfl _ _ (sesC s (.slice u3a s.un u3c) (.slice h3a s.kh.length h3c) (.slice p3a s.pn p3c) (.slice q3a s.qn q3c) (.slice l3a s.ln l3c) (.slice d3a s.dn d3c)) rfl (unhide B1w) infoSes rfl (by simp [Value.oneCell', sesC]) ?_; intro X hx9 hf9; have HX := hide hx9; have FX := hide hf9; clear hx9 hf9))
    have v0 : X.cell? ⟨w.heap.size + 1, 0, none⟩ = some (.string s.pr) := cells_of (unhide HX) 0 _ rfl
    have v1 : X.cell? ⟨w.heap.size + 1, 1, none⟩ = some (.int .i64 s.cols) := cells_of (unhide HX) 1 _ rfl
    have v2 : X.cell? ⟨w.heap.size + 1, 2, none⟩ = some (.int .i64 s.rows) := cells_of (unhide HX) 2 _ rfl
    have v3 : X.cell? ⟨w.heap.size + 1, 3, none⟩ = some (.string s.la) := cells_of (unhide HX) 3 _ rfl
    have v4 : X.cell? ⟨w.heap.size + 1, 4, none⟩ = some (.string s.lb) := cells_of (unhide HX) 4 _ rfl
    have v5 : X.cell? ⟨w.heap.size + 1, 5, none⟩ = some (.string s.lc) := cells_of (unhide HX) 5 _ rfl
    have v6 : X.cell? ⟨w.heap.size + 1, 6, none⟩ = some (.slice u3a s.un u3c) := cells_of (unhide HX) 6 _ rfl
    have v7 : X.cell? ⟨w.heap.size + 1, 7, none⟩ = some (.slice h3a s.kh.length h3c) := cells_of (unhide HX) 7 _ rfl
    have v8 : X.cell? ⟨w.heap.size + 1, 8, none⟩ = some (.bool s.kp) := cells_of (unhide HX) 8 _ rfl
    have v9 : X.cell? ⟨w.heap.size + 1, 9, none⟩ = some (.bool s.nav) := cells_of (unhide HX) 9 _ rfl
    have v10 : X.cell? ⟨w.heap.size + 1, 10, none⟩ = some (.slice p3a s.pn p3c) := cells_of (unhide HX) 10 _ rfl
    have v11 : X.cell? ⟨w.heap.size + 1, 11, none⟩ = some (.int .i64 s.at9) := cells_of (unhide HX) 11 _ rfl
    have v12 : X.cell? ⟨w.heap.size + 1, 12, none⟩ = some (.string s.dr) := cells_of (unhide HX) 12 _ rfl
    have v13 : X.cell? ⟨w.heap.size + 1, 13, none⟩ = some (.bool s.st) := cells_of (unhide HX) 13 _ rfl
    have v14 : X.cell? ⟨w.heap.size + 1, 14, none⟩ = some (.slice q3a s.qn q3c) := cells_of (unhide HX) 14 _ rfl
    have v15 : X.cell? ⟨w.heap.size + 1, 15, none⟩ = some (.slice l3a s.ln l3c) := cells_of (unhide HX) 15 _ rfl
    have v16 : X.cell? ⟨w.heap.size + 1, 16, none⟩ = some (.slice d3a s.dn d3c) := cells_of (unhide HX) 16 _ rfl
    obtain ⟨rfl, rfl, rfl⟩ : s' = s ∧ zs = [] ∧ cd = c := by
      rcases unhide HR with ⟨k1, k2, e1, e2, e3⟩ | ⟨k1, k2, e1, e2, e3⟩ | ⟨k1, e1, e2, e3⟩ <;> rcases unhide HK with ⟨k3, k4⟩ | ⟨k3, k4, k5⟩
      · exact absurd k1 k4
      · rw [k2] at k4; cases k4
      · exact absurd k1 k4
      · exact ⟨e1, e2, by omega⟩
      · exact ⟨e1, e2, by omega⟩
      · exact absurd k3 k1
    have zV := unhide ZV
    have z1 := unhide Z1
    have hp1 := unhide HPP
    refine bodyPost_ret (v := .tuple #[sesV s' (.slice u3a s'.un u3c) (.slice h3a s'.kh.length h3c) (.slice p3a s'.pn p3c) (.slice q3a s'.qn q3c) (.slice l3a s'.ln l3c) (.slice d3a s'.dn d3c), .slice none 0 0, .int .i64 cd]) (by simp [results, Tryz.results16, go_sem, sesV, v0, v1, v2, v3, v4, v5, v6, v7, v8, v9, v10, v11, v12, v13, v14, v15, v16]) rfl ⟨_, _, _, _, rfl, sesK_own (((unhide HO2).fr (unhide FX) (fun g hg e9 => by have := ((unhide HO2).foot hg).1; omega)).mono (by omega)), bytesK_own (zs := []) (owns_nil X w.heap.size 5 1), fun g _ hg2 => by simp [Value.ownBlock] at hg2, (unhide FX).ext ((unhide HF2).ext (unhide E1) (fun q hq => by omega)) (fun q hq => by omega)⟩
end Go.Proofs.YtjfnieodpdklfaaGreatDoor
