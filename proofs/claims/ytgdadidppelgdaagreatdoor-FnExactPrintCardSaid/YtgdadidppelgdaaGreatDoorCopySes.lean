import Derived.Test.YtgdadidppelgdaaGreatDoorSesCopy
import Derived.Test.YtgdadidppelgdaaGreatDoorSesOkI
import Derived.Test.YtgdadidppelgdaaGreatDoorWhole
namespace Go.Proofs.YtgdadidppelgdaaGreatDoor
open Go.RowKit

set_option maxRecDepth 10000 in
set_option maxHeartbeats 2000000 in
theorem copyLine_any (a b c : ByteArray) (v : Value) (n : Nat) (tx hf : Nat → ByteArray) (w : World) (hv : Row2At w v n (fun j => .string (tx j)) (fun j => .string (hf j))) (hn : n ≤ 1048576) :
    Calls Tryz.prog 94 #[.agg #[.string a, .string b, .string c, v]] w fun e w' => ∃ ua uc, e = .returned (.agg #[.string a, .string b, .string c, .slice ua n uc]) ∧ Hid (Own2 w' w.heap.size 123 (.slice ua n uc) n (fun j => .string (tx j)) (fun j => .string (hf j))) ∧ Ext w w' := by
  obtain ⟨ic, hic, hc0, hc1, hc2⟩ := info_parts infoSnap
  have HSR := hide (fun W (hW : Ext w W) => Src.snaps (hv.ext hW))
  obtain ⟨ao, ca, rfl, _, _⟩ := hv
  have infoL : (Tryz.prog.info? 34).map (·.size) = some 4 := by kernel_rfl
  have HA0 : Hid (((w.alloc (.cells #[.string a, .string b, .string c, .slice ao n ca] 34)).alloc (.cells #[.string { data := #[] }, .string { data := #[] }, .string { data := #[] }, .slice none 0 0] 34)).heap[w.heap.size]? = some (.cells #[.string a, .string b, .string c, .slice ao n ca] 34 (0, 0))) := hide (((Ext.refl _).alloc _).kept (new_block w _))
  have HA2 : Hid ((((w.alloc (.cells #[.string a, .string b, .string c, .slice ao n ca] 34)).alloc (.cells #[.string { data := #[] }, .string { data := #[] }, .string { data := #[] }, .slice none 0 0] 34)).alloc (.cells #[.string { data := #[] }, .string { data := #[] }, .string { data := #[] }, .slice none 0 0] 34)).heap[w.heap.size + 1 + 1]? = some (.cells #[.string { data := #[] }, .string { data := #[] }, .string { data := #[] }, .slice none 0 0] 34 (0, 0))) := hide (by have h := new_block ((w.alloc (.cells #[.string a, .string b, .string c, .slice ao n ca] 34)).alloc (.cells #[.string { data := #[] }, .string { data := #[] }, .string { data := #[] }, .slice none 0 0] 34)) (.cells #[.string { data := #[] }, .string { data := #[] }, .string { data := #[] }, .slice none 0 0] 34); rw [show ((w.alloc (.cells #[.string a, .string b, .string c, .slice ao n ca] 34)).alloc (.cells #[.string { data := #[] }, .string { data := #[] }, .string { data := #[] }, .slice none 0 0] 34)).heap.size = w.heap.size + 1 + 1 by simp] at h; exact h)
  have HA1 : Hid ((((w.alloc (.cells #[.string a, .string b, .string c, .slice ao n ca] 34)).alloc (.cells #[.string { data := #[] }, .string { data := #[] }, .string { data := #[] }, .slice none 0 0] 34)).alloc (.cells #[.string { data := #[] }, .string { data := #[] }, .string { data := #[] }, .slice none 0 0] 34)).heap[w.heap.size + 1]? = some (.cells #[.string { data := #[] }, .string { data := #[] }, .string { data := #[] }, .slice none 0 0] 34 (0, 0))) := hide (by refine ((Ext.refl _).alloc _).kept ?_; have h := new_block (w.alloc (.cells #[.string a, .string b, .string c, .slice ao n ca] 34)) (.cells #[.string { data := #[] }, .string { data := #[] }, .string { data := #[] }, .slice none 0 0] 34); rw [show (w.alloc (.cells #[.string a, .string b, .string c, .slice ao n ca] 34)).heap.size = w.heap.size + 1 by simp] at h; exact h)
  have HAE : Hid (Ext w (((w.alloc (.cells #[.string a, .string b, .string c, .slice ao n ca] 34)).alloc (.cells #[.string { data := #[] }, .string { data := #[] }, .string { data := #[] }, .slice none 0 0] 34)).alloc (.cells #[.string { data := #[] }, .string { data := #[] }, .string { data := #[] }, .slice none 0 0] 34))) := hide ((((Ext.refl w).alloc _).alloc _).alloc _)
  have HAs : Hid ((((w.alloc (.cells #[.string a, .string b, .string c, .slice ao n ca] 34)).alloc (.cells #[.string { data := #[] }, .string { data := #[] }, .string { data := #[] }, .slice none 0 0] 34)).alloc (.cells #[.string { data := #[] }, .string { data := #[] }, .string { data := #[] }, .slice none 0 0] 34)).heap.size = w.heap.size + 1 + 1 + 1) := hide (by simp)
  go_enter Tryz.func94, Tryz.ntmps94
  go_wp2_with (first
    | (refine wpList_load_blk rfl 34 _ rfl (w.heap.size) rfl _ _ _ _ (unhide HA0) Tryz.underlying34 rfl infoL ?_)
    | (refine wpList_store_blk rfl 34 _ _ rfl rfl (w.heap.size + 1 + 1) rfl _ _ _ rfl (unhide HA2) infoL rfl (by simp [Value.oneCell']) ?_; intro U HB9 hU9; have k3 : U.cell? ⟨w.heap.size, 3, none⟩ = some (.slice ao n ca) := cells_of (hU9.kept (((Ext.refl _).alloc _).kept (unhide HA0)) (by omega)) 3 _ rfl; have HU9 := hide hU9; have HB2 := hide HB9; clear hU9 HB9)
    | (at_builtin; refine StopQ.intro ?_))
  show wpList _ _ _ _ _ _
  have E0 : Ext w U := (unhide HU9).ext (unhide HAE) (fun q hq => by omega)
  have zU : w.heap.size + 1 + 1 + 1 ≤ U.heap.size := by have h1 := (unhide HU9).size; have h2 := unhide HAs; omega
  have HB0 := hide ((unhide HU9).kept (((Ext.refl _).alloc _).kept (unhide HA0)) (by omega))
  have HB1 := hide ((unhide HU9).kept (unhide HA1) (by omega))
  clear HU9 HA0 HA1 HA2 HAE HAs k3 HB0
  refine wpList_app rfl _ _ 32 rfl U.heap.size 123 ic (.agg #[.string noT, .string noT]) 2 32 Tryz.underlying32 hic hc0 hc1 hc2 rfl (by decide) _ 0 [] rfl (owns_nil _ _ _ _) _ n (pairsL (fun j => .string (tx j)) (fun j => .string (hf j)) n) rfl ((unhide HSR) _ E0) (by unfold maxLen; omega) (by omega) (Nat.le_refl _) ?_
  intro v2 w2 o2 G2 _
  have X2 : Ext U w2 := (Ext.refl U).grown G2 (fun q hq => by cases hq)
  have E2 := E0.trans X2
  rw [Nat.zero_add, List.nil_append] at o2
  obtain ⟨a2, c2, rfl⟩ := owns_slice o2
  replace HB1 := hide (X2.kept (unhide HB1))
  replace HB2 := hide (X2.kept (unhide HB2))
  have HO2 := hide (own2_pairs o2)
  have y3 : w2.cell? ⟨w.heap.size + 1 + 1, 3, none⟩ = some (.slice ao n ca) := cells_of (unhide HB2) 3 _ rfl
  have f2 : ∀ i, w2.frozen? ⟨w.heap.size + 1 + 1, i, none⟩ = false := fun i => Lib.frozen_of_heap (unhide HB2) i
  have HB2s : Hid ((w2.setCell ⟨w.heap.size + 1 + 1, 3, none⟩ (.slice a2 n c2)).heap[w.heap.size + 1 + 1]? = some (.cells #[.string a, .string b, .string c, .slice a2 n c2] 34 (0, 0))) := hide (set_blk2 (unhide HB2) rfl)
  have HB1s : Hid ((w2.setCell ⟨w.heap.size + 1 + 1, 3, none⟩ (.slice a2 n c2)).heap[w.heap.size + 1]? = some (.cells #[.string { data := #[] }, .string { data := #[] }, .string { data := #[] }, .slice none 0 0] 34 (0, 0))) := hide (set_else (unhide HB1) (by omega))
  clear o2 G2 HSR
  go_wp2_with (first
    | (refine wpList_load_blk rfl 34 _ rfl (w.heap.size + 1 + 1) rfl _ _ _ _ (unhide HB2s) Tryz.underlying34 rfl infoL ?_)
    | (refine wpList_store_blk rfl 34 _ _ rfl rfl (w.heap.size + 1) rfl _ _ _ rfl (unhide HB1s) infoL rfl (by simp [Value.oneCell']) ?_; intro Y HB9 hU9; have HU9 := hide hU9; have HB9' := hide HB9; clear hU9 HB9))
  have HB9 := unhide HB9'
  have hU : Fr (fun q => q = w.heap.size + 1 + 1 ∨ q = w.heap.size + 1) w2 Y := (Fr.setCell (S := fun q => q = w.heap.size + 1 + 1 ∨ q = w.heap.size + 1) (Fr.refl _ _) (a := ⟨w.heap.size + 1 + 1, 3, none⟩) (.inl rfl) _).tr ((unhide HU9).mono (fun q hq => .inr hq))
  clear HU9 HB9' y3 f2
  have v0 : Y.cell? ⟨w.heap.size + 1, 0, none⟩ = some (.string a) := cells_of HB9 0 _ rfl
  have v1 : Y.cell? ⟨w.heap.size + 1, 1, none⟩ = some (.string b) := cells_of HB9 1 _ rfl
  have v2 : Y.cell? ⟨w.heap.size + 1, 2, none⟩ = some (.string c) := cells_of HB9 2 _ rfl
  have v3 : Y.cell? ⟨w.heap.size + 1, 3, none⟩ = some (.slice a2 n c2) := cells_of HB9 3 _ rfl
  exact bodyPost_ret (v := .agg #[.string a, .string b, .string c, .slice a2 n c2]) (by simp [results, Tryz.results94, go_sem, v0, v1, v2, v3]) rfl ⟨a2, c2, rfl, hide (((unhide HO2).fr hU (fun g hg e9 => by have := ((unhide HO2).lt g hg).1; omega)).mono (by omega)), hU.ext E2 (fun q hq => by omega)⟩
set_option maxRecDepth 10000 in
set_option maxHeartbeats 16000000 in
theorem copySession_any (s : SS) (u h p q l d : Value) (w : World) (hA : SesAt w s u h p q l d) (hz : s.Sz) :
    Calls Tryz.prog 64 #[sesV s u h p q l d] w fun e w' => ∃ u h p q l d, e = .returned (sesV s u h p q l d) ∧ OwnSes w' w.heap.size s u h p q l d ∧ Ext w w' := by
  obtain ⟨ua, uc, ha, hc, pa, pc, qa, qc, la, lc, da, dc, rfl, rfl, rfl, rfl, rfl, rfl⟩ := hA.forms
  obtain ⟨iu, hiu, hu0, hu1, hu2⟩ := info_parts infoU8
  obtain ⟨ic, hic, hc0, hc1, hc2⟩ := info_parts infoStrs
  have hkl := hz.kh
  have hpl := hz.pn
  have hql := hz.qn
  have hll := hz.ln
  have hdl := hz.dn
  have hL := hide (fun W (hW : Ext w W) => copyLine_any s.la s.lb s.lc _ s.un s.ut s.uh W (hA.un.ext hW) hz.un)
  have hK := hide (fun W (hW : Ext w W) => Src.ints (hA.kh.ext hW))
  have hP := hide (fun W (hW : Ext w W) => Src.strs (hA.pa.ext hW))
  have hQ := hide (fun W (hW : Ext w W) => Src.strs (hA.qu.ext hW))
  have hO := hide (fun W (hW : Ext w W) => Src.strs (hA.lo.ext hW))
  have hD := hide (fun W (hW : Ext w W) => Src.strs (hA.dn.ext hW))
  clear hA hz
  have HA0 : Hid (((w.alloc (.cells #[.string s.pr, .int .i64 s.cols, .int .i64 s.rows, .string s.la, .string s.lb, .string s.lc, .slice ua s.un uc, .slice ha s.kh.length hc, .bool s.kp, .bool s.nav, .slice pa s.pn pc, .int .i64 s.at9, .string s.dr, .bool s.st, .slice qa s.qn qc, .slice la s.ln lc, .slice da s.dn dc] 37)).alloc (.cells #[.string { data := #[] }, .int .i64 0, .int .i64 0, .string { data := #[] }, .string { data := #[] }, .string { data := #[] }, .slice none 0 0, .slice none 0 0, .bool false, .bool false, .slice none 0 0, .int .i64 0, .string { data := #[] }, .bool false, .slice none 0 0, .slice none 0 0, .slice none 0 0] 37)).heap[w.heap.size]? = some (.cells #[.string s.pr, .int .i64 s.cols, .int .i64 s.rows, .string s.la, .string s.lb, .string s.lc, .slice ua s.un uc, .slice ha s.kh.length hc, .bool s.kp, .bool s.nav, .slice pa s.pn pc, .int .i64 s.at9, .string s.dr, .bool s.st, .slice qa s.qn qc, .slice la s.ln lc, .slice da s.dn dc] 37 (0, 0))) := hide (((Ext.refl _).alloc _).kept (new_block w _))
  have HA2 : Hid ((((w.alloc (.cells #[.string s.pr, .int .i64 s.cols, .int .i64 s.rows, .string s.la, .string s.lb, .string s.lc, .slice ua s.un uc, .slice ha s.kh.length hc, .bool s.kp, .bool s.nav, .slice pa s.pn pc, .int .i64 s.at9, .string s.dr, .bool s.st, .slice qa s.qn qc, .slice la s.ln lc, .slice da s.dn dc] 37)).alloc (.cells #[.string { data := #[] }, .int .i64 0, .int .i64 0, .string { data := #[] }, .string { data := #[] }, .string { data := #[] }, .slice none 0 0, .slice none 0 0, .bool false, .bool false, .slice none 0 0, .int .i64 0, .string { data := #[] }, .bool false, .slice none 0 0, .slice none 0 0, .slice none 0 0] 37)).alloc (.cells #[.string { data := #[] }, .int .i64 0, .int .i64 0, .string { data := #[] }, .string { data := #[] }, .string { data := #[] }, .slice none 0 0, .slice none 0 0, .bool false, .bool false, .slice none 0 0, .int .i64 0, .string { data := #[] }, .bool false, .slice none 0 0, .slice none 0 0, .slice none 0 0] 37)).heap[w.heap.size + 1 + 1]? = some (.cells #[.string { data := #[] }, .int .i64 0, .int .i64 0, .string { data := #[] }, .string { data := #[] }, .string { data := #[] }, .slice none 0 0, .slice none 0 0, .bool false, .bool false, .slice none 0 0, .int .i64 0, .string { data := #[] }, .bool false, .slice none 0 0, .slice none 0 0, .slice none 0 0] 37 (0, 0))) := hide (by have h := new_block ((w.alloc (.cells #[.string s.pr, .int .i64 s.cols, .int .i64 s.rows, .string s.la, .string s.lb, .string s.lc, .slice ua s.un uc, .slice ha s.kh.length hc, .bool s.kp, .bool s.nav, .slice pa s.pn pc, .int .i64 s.at9, .string s.dr, .bool s.st, .slice qa s.qn qc, .slice la s.ln lc, .slice da s.dn dc] 37)).alloc (.cells #[.string { data := #[] }, .int .i64 0, .int .i64 0, .string { data := #[] }, .string { data := #[] }, .string { data := #[] }, .slice none 0 0, .slice none 0 0, .bool false, .bool false, .slice none 0 0, .int .i64 0, .string { data := #[] }, .bool false, .slice none 0 0, .slice none 0 0, .slice none 0 0] 37)) (.cells #[.string { data := #[] }, .int .i64 0, .int .i64 0, .string { data := #[] }, .string { data := #[] }, .string { data := #[] }, .slice none 0 0, .slice none 0 0, .bool false, .bool false, .slice none 0 0, .int .i64 0, .string { data := #[] }, .bool false, .slice none 0 0, .slice none 0 0, .slice none 0 0] 37); rw [show ((w.alloc (.cells #[.string s.pr, .int .i64 s.cols, .int .i64 s.rows, .string s.la, .string s.lb, .string s.lc, .slice ua s.un uc, .slice ha s.kh.length hc, .bool s.kp, .bool s.nav, .slice pa s.pn pc, .int .i64 s.at9, .string s.dr, .bool s.st, .slice qa s.qn qc, .slice la s.ln lc, .slice da s.dn dc] 37)).alloc (.cells #[.string { data := #[] }, .int .i64 0, .int .i64 0, .string { data := #[] }, .string { data := #[] }, .string { data := #[] }, .slice none 0 0, .slice none 0 0, .bool false, .bool false, .slice none 0 0, .int .i64 0, .string { data := #[] }, .bool false, .slice none 0 0, .slice none 0 0, .slice none 0 0] 37)).heap.size = w.heap.size + 1 + 1 by simp] at h; exact h)
  have HA1 : Hid ((((w.alloc (.cells #[.string s.pr, .int .i64 s.cols, .int .i64 s.rows, .string s.la, .string s.lb, .string s.lc, .slice ua s.un uc, .slice ha s.kh.length hc, .bool s.kp, .bool s.nav, .slice pa s.pn pc, .int .i64 s.at9, .string s.dr, .bool s.st, .slice qa s.qn qc, .slice la s.ln lc, .slice da s.dn dc] 37)).alloc (.cells #[.string { data := #[] }, .int .i64 0, .int .i64 0, .string { data := #[] }, .string { data := #[] }, .string { data := #[] }, .slice none 0 0, .slice none 0 0, .bool false, .bool false, .slice none 0 0, .int .i64 0, .string { data := #[] }, .bool false, .slice none 0 0, .slice none 0 0, .slice none 0 0] 37)).alloc (.cells #[.string { data := #[] }, .int .i64 0, .int .i64 0, .string { data := #[] }, .string { data := #[] }, .string { data := #[] }, .slice none 0 0, .slice none 0 0, .bool false, .bool false, .slice none 0 0, .int .i64 0, .string { data := #[] }, .bool false, .slice none 0 0, .slice none 0 0, .slice none 0 0] 37)).heap[w.heap.size + 1]? = some (.cells #[.string { data := #[] }, .int .i64 0, .int .i64 0, .string { data := #[] }, .string { data := #[] }, .string { data := #[] }, .slice none 0 0, .slice none 0 0, .bool false, .bool false, .slice none 0 0, .int .i64 0, .string { data := #[] }, .bool false, .slice none 0 0, .slice none 0 0, .slice none 0 0] 37 (0, 0))) := hide (by refine ((Ext.refl _).alloc _).kept ?_; have h := new_block (w.alloc (.cells #[.string s.pr, .int .i64 s.cols, .int .i64 s.rows, .string s.la, .string s.lb, .string s.lc, .slice ua s.un uc, .slice ha s.kh.length hc, .bool s.kp, .bool s.nav, .slice pa s.pn pc, .int .i64 s.at9, .string s.dr, .bool s.st, .slice qa s.qn qc, .slice la s.ln lc, .slice da s.dn dc] 37)) (.cells #[.string { data := #[] }, .int .i64 0, .int .i64 0, .string { data := #[] }, .string { data := #[] }, .string { data := #[] }, .slice none 0 0, .slice none 0 0, .bool false, .bool false, .slice none 0 0, .int .i64 0, .string { data := #[] }, .bool false, .slice none 0 0, .slice none 0 0, .slice none 0 0] 37); rw [show (w.alloc (.cells #[.string s.pr, .int .i64 s.cols, .int .i64 s.rows, .string s.la, .string s.lb, .string s.lc, .slice ua s.un uc, .slice ha s.kh.length hc, .bool s.kp, .bool s.nav, .slice pa s.pn pc, .int .i64 s.at9, .string s.dr, .bool s.st, .slice qa s.qn qc, .slice la s.ln lc, .slice da s.dn dc] 37)).heap.size = w.heap.size + 1 by simp] at h; exact h)
  have HAE : Hid (Ext w (((w.alloc (.cells #[.string s.pr, .int .i64 s.cols, .int .i64 s.rows, .string s.la, .string s.lb, .string s.lc, .slice ua s.un uc, .slice ha s.kh.length hc, .bool s.kp, .bool s.nav, .slice pa s.pn pc, .int .i64 s.at9, .string s.dr, .bool s.st, .slice qa s.qn qc, .slice la s.ln lc, .slice da s.dn dc] 37)).alloc (.cells #[.string { data := #[] }, .int .i64 0, .int .i64 0, .string { data := #[] }, .string { data := #[] }, .string { data := #[] }, .slice none 0 0, .slice none 0 0, .bool false, .bool false, .slice none 0 0, .int .i64 0, .string { data := #[] }, .bool false, .slice none 0 0, .slice none 0 0, .slice none 0 0] 37)).alloc (.cells #[.string { data := #[] }, .int .i64 0, .int .i64 0, .string { data := #[] }, .string { data := #[] }, .string { data := #[] }, .slice none 0 0, .slice none 0 0, .bool false, .bool false, .slice none 0 0, .int .i64 0, .string { data := #[] }, .bool false, .slice none 0 0, .slice none 0 0, .slice none 0 0] 37))) := hide ((((Ext.refl w).alloc _).alloc _).alloc _)
  have HAs : Hid ((((w.alloc (.cells #[.string s.pr, .int .i64 s.cols, .int .i64 s.rows, .string s.la, .string s.lb, .string s.lc, .slice ua s.un uc, .slice ha s.kh.length hc, .bool s.kp, .bool s.nav, .slice pa s.pn pc, .int .i64 s.at9, .string s.dr, .bool s.st, .slice qa s.qn qc, .slice la s.ln lc, .slice da s.dn dc] 37)).alloc (.cells #[.string { data := #[] }, .int .i64 0, .int .i64 0, .string { data := #[] }, .string { data := #[] }, .string { data := #[] }, .slice none 0 0, .slice none 0 0, .bool false, .bool false, .slice none 0 0, .int .i64 0, .string { data := #[] }, .bool false, .slice none 0 0, .slice none 0 0, .slice none 0 0] 37)).alloc (.cells #[.string { data := #[] }, .int .i64 0, .int .i64 0, .string { data := #[] }, .string { data := #[] }, .string { data := #[] }, .slice none 0 0, .slice none 0 0, .bool false, .bool false, .slice none 0 0, .int .i64 0, .string { data := #[] }, .bool false, .slice none 0 0, .slice none 0 0, .slice none 0 0] 37)).heap.size = w.heap.size + 1 + 1 + 1) := hide (by simp)
  unfold sesV
  go_enter Tryz.func64, Tryz.ntmps64
  go_wp2_with (first
    | (refine wpList_load_blk rfl 37 _ rfl (w.heap.size) rfl _ _ _ _ (unhide HA0) Tryz.underlying37 rfl infoSes ?_)
    | (refine wpList_store_blk rfl 37 _ _ rfl rfl (w.heap.size + 1 + 1) rfl _ _ _ rfl (unhide HA2) infoSes rfl (by simp [Value.oneCell']) ?_; intro U HB9 hU9; have k3 : U.cell? ⟨w.heap.size, 3, none⟩ = some (.string s.la) := cells_of (hU9.kept (((Ext.refl _).alloc _).kept (unhide HA0)) (by omega)) 3 _ rfl; have k4 : U.cell? ⟨w.heap.size, 4, none⟩ = some (.string s.lb) := cells_of (hU9.kept (((Ext.refl _).alloc _).kept (unhide HA0)) (by omega)) 4 _ rfl; have k5 : U.cell? ⟨w.heap.size, 5, none⟩ = some (.string s.lc) := cells_of (hU9.kept (((Ext.refl _).alloc _).kept (unhide HA0)) (by omega)) 5 _ rfl; have k6 : U.cell? ⟨w.heap.size, 6, none⟩ = some (.slice ua s.un uc) := cells_of (hU9.kept (((Ext.refl _).alloc _).kept (unhide HA0)) (by omega)) 6 _ rfl; have HU9 := hide hU9; have HB2 := hide HB9; clear hU9 HB9)
    | (at_builtin; refine StopQ.intro ?_))
  have E0 : Ext w U := (unhide HU9).ext (unhide HAE) (fun q hq => by omega)
  have zU : w.heap.size + 1 + 1 + 1 ≤ U.heap.size := by have h1 := (unhide HU9).size; have h2 := unhide HAs; omega
  have HB0 := hide ((unhide HU9).kept (((Ext.refl _).alloc _).kept (unhide HA0)) (by omega))
  have HB1 := hide ((unhide HU9).kept (unhide HA1) (by omega))
  have BB := hide zU
  clear HU9 HA0 HA1 HA2 HAE HAs k3 k4 k5 k6 zU
  refine ((unhide hL) U E0).mono ?_
  rintro e w1 ⟨u1a, u1c, rfl, O1, F1⟩
  have E1 := E0.trans F1
  have T1 := hide F1.size
  have LT1 := hide (fun g hg => (unhide O1).lt g hg)
  replace HB0 := hide (F1.kept (unhide HB0))
  replace HB1 := hide (F1.kept (unhide HB1))
  replace HB2 := hide (F1.kept (unhide HB2))
  clear F1
  have y1_3 : w1.cell? ⟨w.heap.size + 1 + 1, 3, none⟩ = some (.string s.la) := cells_of (unhide HB2) 3 _ rfl
  have y1_4 : w1.cell? ⟨w.heap.size + 1 + 1, 4, none⟩ = some (.string s.lb) := cells_of (unhide HB2) 4 _ rfl
  have y1_5 : w1.cell? ⟨w.heap.size + 1 + 1, 5, none⟩ = some (.string s.lc) := cells_of (unhide HB2) 5 _ rfl
  have y1_6 : w1.cell? ⟨w.heap.size + 1 + 1, 6, none⟩ = some (.slice ua s.un uc) := cells_of (unhide HB2) 6 _ rfl
  have o1_7 : w1.cell? ⟨w.heap.size, 7, none⟩ = some (.slice ha s.kh.length hc) := cells_of (unhide HB0) 7 _ rfl
  have f1 : ∀ i, w1.frozen? ⟨w.heap.size + 1 + 1, i, none⟩ = false := fun i => Lib.frozen_of_heap (unhide HB2) i
  have q1 : ¬ (w.heap.size = w.heap.size + 1 + 1) := by omega
  go_wp2_with (at_builtin; refine StopQ.intro ?_)
  show wpList _ _ _ _ _ _
  clear y1_3 y1_4 y1_5 y1_6 o1_7 f1 q1
  refine (fun (X2 : World) (hX2 : X2 = _) => ?_ : ∀ X, X = _ → wpList _ _ _ _ _ X) _ rfl
  have FR2 : Fr (fun q => q = w.heap.size + 1 + 1) w1 X2 := by
    rw [hX2]
    repeat' first | refine Fr.setCell (S := fun q => q = w.heap.size + 1 + 1) ?_ (a := ⟨w.heap.size + 1 + 1, _, none⟩) rfl _ | exact Fr.refl _ _
  have EX2 : Ext w X2 := FR2.ext E1 (fun q hq => by omega)
  have HB2x : Hid (X2.heap[w.heap.size + 1 + 1]? = some (.cells #[.string s.pr, .int .i64 s.cols, .int .i64 s.rows, .string s.la, .string s.lb, .string s.lc, .slice u1a s.un u1c, .slice ha s.kh.length hc, .bool s.kp, .bool s.nav, .slice pa s.pn pc, .int .i64 s.at9, .string s.dr, .bool s.st, .slice qa s.qn qc, .slice la s.ln lc, .slice da s.dn dc] 37 (0, 0))) := hide (by rw [hX2]; exact (set_blk (i := 6) (v := .slice u1a s.un u1c) (set_blk (i := 5) (v := .string s.lc) (set_blk (i := 4) (v := .string s.lb) (set_blk (i := 3) (v := .string s.la) (unhide HB2))))))
  replace HB0 := hide (FR2.kept (unhide HB0) (by omega))
  replace HB1 := hide (FR2.kept (unhide HB1) (by omega))
  replace HB2 := HB2x
  clear HB2x hX2
  replace O1 := hide ((unhide O1).fr FR2 (fun g hg e9 => by have z9 := ((unhide O1).lt g hg).1; have s9 := unhide BB; have t1 := unhide T1; omega))
  have S2 := hide FR2.size
  refine wpList_app rfl _ _ 25 rfl X2.heap.size 5 iu (.int .u8 0) 1 1 Tryz.underlying25 hiu hu0 hu1 hu2 rfl (by decide) _ 0 [] rfl (owns_nil _ _ _ _) _ s.kh.length (s.kh.map (Value.int .u8)) rfl ((unhide hK) _ EX2) (by unfold maxLen; omega) (by omega) (Nat.le_refl _) ?_
  intro v9 w2 o9 G9 _
  have F2 : Ext X2 w2 := (Ext.refl X2).grown G9 (fun q hq => by cases hq)
  have E2 := EX2.trans F2
  rw [Nat.zero_add, List.nil_append] at o9
  obtain ⟨h2a, h2c, rfl⟩ := owns_slice o9
  have O2 := hide (o9)
  have T2 := hide F2.size
  have LT2 := hide (fun g hg => (unhide O2).lt g hg)
  replace O1 := hide ((unhide O1).ext F2)
  replace HB0 := hide (F2.kept (unhide HB0))
  replace HB1 := hide (F2.kept (unhide HB1))
  replace HB2 := hide (F2.kept (unhide HB2))
  clear o9 G9 FR2 EX2 F2
  have y2_7 : w2.cell? ⟨w.heap.size + 1 + 1, 7, none⟩ = some (.slice ha s.kh.length hc) := cells_of (unhide HB2) 7 _ rfl
  have o2_10 : w2.cell? ⟨w.heap.size, 10, none⟩ = some (.slice pa s.pn pc) := cells_of (unhide HB0) 10 _ rfl
  have f2 : ∀ i, w2.frozen? ⟨w.heap.size + 1 + 1, i, none⟩ = false := fun i => Lib.frozen_of_heap (unhide HB2) i
  have q2 : ¬ (w.heap.size = w.heap.size + 1 + 1) := by omega
  go_wp2_with (at_builtin; refine StopQ.intro ?_)
  show wpList _ _ _ _ _ _
  clear y2_7 o2_10 f2 q2
  refine (fun (X3 : World) (hX3 : X3 = _) => ?_ : ∀ X, X = _ → wpList _ _ _ _ _ X) _ rfl
  have FR3 : Fr (fun q => q = w.heap.size + 1 + 1) w2 X3 := by
    rw [hX3]
    repeat' first | refine Fr.setCell (S := fun q => q = w.heap.size + 1 + 1) ?_ (a := ⟨w.heap.size + 1 + 1, _, none⟩) rfl _ | exact Fr.refl _ _
  have EX3 : Ext w X3 := FR3.ext E2 (fun q hq => by omega)
  have HB2x : Hid (X3.heap[w.heap.size + 1 + 1]? = some (.cells #[.string s.pr, .int .i64 s.cols, .int .i64 s.rows, .string s.la, .string s.lb, .string s.lc, .slice u1a s.un u1c, .slice h2a s.kh.length h2c, .bool s.kp, .bool s.nav, .slice pa s.pn pc, .int .i64 s.at9, .string s.dr, .bool s.st, .slice qa s.qn qc, .slice la s.ln lc, .slice da s.dn dc] 37 (0, 0))) := hide (by rw [hX3]; exact (set_blk (i := 7) (v := .slice h2a s.kh.length h2c) (unhide HB2)))
  replace HB0 := hide (FR3.kept (unhide HB0) (by omega))
  replace HB1 := hide (FR3.kept (unhide HB1) (by omega))
  replace HB2 := HB2x
  clear HB2x hX3
  replace O1 := hide ((unhide O1).fr FR3 (fun g hg e9 => by have z9 := ((unhide O1).lt g hg).1; have s9 := unhide BB; have t1 := unhide T1; have t2 := unhide T2; have s2 := unhide S2; omega))
  replace O2 := hide (FR3.owns (unhide O2) (fun g hg e9 => by have z9 := ((unhide O2).lt g hg).1; have s9 := unhide BB; have t1 := unhide T1; have t2 := unhide T2; have s2 := unhide S2; omega))
  have S3 := hide FR3.size
  refine wpList_app rfl _ _ 28 rfl X3.heap.size 9 ic (.string { data := #[] }) 1 16 Tryz.underlying28 hic hc0 hc1 hc2 rfl (by decide) _ 0 [] rfl (owns_nil _ _ _ _) _ s.pn (strL s.pt s.pn) rfl ((unhide hP) _ EX3) (by unfold maxLen; omega) (by omega) (Nat.le_refl _) ?_
  intro v9 w3 o9 G9 _
  have F3 : Ext X3 w3 := (Ext.refl X3).grown G9 (fun q hq => by cases hq)
  have E3 := EX3.trans F3
  rw [Nat.zero_add, List.nil_append] at o9
  obtain ⟨p3a, p3c, rfl⟩ := owns_slice o9
  have O3 := hide (own_strL o9)
  have T3 := hide F3.size
  have LT3 := hide (fun g hg => (unhide O3).lt g hg)
  replace O1 := hide ((unhide O1).ext F3)
  replace O2 := hide (F3.owns (unhide O2))
  replace HB0 := hide (F3.kept (unhide HB0))
  replace HB1 := hide (F3.kept (unhide HB1))
  replace HB2 := hide (F3.kept (unhide HB2))
  clear o9 G9 FR3 EX3 F3
  have y3_10 : w3.cell? ⟨w.heap.size + 1 + 1, 10, none⟩ = some (.slice pa s.pn pc) := cells_of (unhide HB2) 10 _ rfl
  have o3_14 : w3.cell? ⟨w.heap.size, 14, none⟩ = some (.slice qa s.qn qc) := cells_of (unhide HB0) 14 _ rfl
  have f3 : ∀ i, w3.frozen? ⟨w.heap.size + 1 + 1, i, none⟩ = false := fun i => Lib.frozen_of_heap (unhide HB2) i
  have q3 : ¬ (w.heap.size = w.heap.size + 1 + 1) := by omega
  go_wp2_with (at_builtin; refine StopQ.intro ?_)
  show wpList _ _ _ _ _ _
  clear y3_10 o3_14 f3 q3
  refine (fun (X4 : World) (hX4 : X4 = _) => ?_ : ∀ X, X = _ → wpList _ _ _ _ _ X) _ rfl
  have FR4 : Fr (fun q => q = w.heap.size + 1 + 1) w3 X4 := by
    rw [hX4]
    repeat' first | refine Fr.setCell (S := fun q => q = w.heap.size + 1 + 1) ?_ (a := ⟨w.heap.size + 1 + 1, _, none⟩) rfl _ | exact Fr.refl _ _
  have EX4 : Ext w X4 := FR4.ext E3 (fun q hq => by omega)
  have HB2x : Hid (X4.heap[w.heap.size + 1 + 1]? = some (.cells #[.string s.pr, .int .i64 s.cols, .int .i64 s.rows, .string s.la, .string s.lb, .string s.lc, .slice u1a s.un u1c, .slice h2a s.kh.length h2c, .bool s.kp, .bool s.nav, .slice p3a s.pn p3c, .int .i64 s.at9, .string s.dr, .bool s.st, .slice qa s.qn qc, .slice la s.ln lc, .slice da s.dn dc] 37 (0, 0))) := hide (by rw [hX4]; exact (set_blk (i := 10) (v := .slice p3a s.pn p3c) (unhide HB2)))
  replace HB0 := hide (FR4.kept (unhide HB0) (by omega))
  replace HB1 := hide (FR4.kept (unhide HB1) (by omega))
  replace HB2 := HB2x
  clear HB2x hX4
  replace O1 := hide ((unhide O1).fr FR4 (fun g hg e9 => by have z9 := ((unhide O1).lt g hg).1; have s9 := unhide BB; have t1 := unhide T1; have t2 := unhide T2; have t3 := unhide T3; have s2 := unhide S2; have s3 := unhide S3; omega))
  replace O2 := hide (FR4.owns (unhide O2) (fun g hg e9 => by have z9 := ((unhide O2).lt g hg).1; have s9 := unhide BB; have t1 := unhide T1; have t2 := unhide T2; have t3 := unhide T3; have s2 := unhide S2; have s3 := unhide S3; omega))
  replace O3 := hide ((unhide O3).fr FR4 (fun g hg e9 => by have z9 := ((unhide O3).lt g hg).1; have s9 := unhide BB; have t1 := unhide T1; have t2 := unhide T2; have t3 := unhide T3; have s2 := unhide S2; have s3 := unhide S3; omega))
  have S4 := hide FR4.size
  refine wpList_app rfl _ _ 28 rfl X4.heap.size 9 ic (.string { data := #[] }) 1 16 Tryz.underlying28 hic hc0 hc1 hc2 rfl (by decide) _ 0 [] rfl (owns_nil _ _ _ _) _ s.qn (strL s.qt s.qn) rfl ((unhide hQ) _ EX4) (by unfold maxLen; omega) (by omega) (Nat.le_refl _) ?_
  intro v9 w4 o9 G9 _
  have F4 : Ext X4 w4 := (Ext.refl X4).grown G9 (fun q hq => by cases hq)
  have E4 := EX4.trans F4
  rw [Nat.zero_add, List.nil_append] at o9
  obtain ⟨q4a, q4c, rfl⟩ := owns_slice o9
  have O4 := hide (own_strL o9)
  have T4 := hide F4.size
  have LT4 := hide (fun g hg => (unhide O4).lt g hg)
  replace O1 := hide ((unhide O1).ext F4)
  replace O2 := hide (F4.owns (unhide O2))
  replace O3 := hide ((unhide O3).ext F4)
  replace HB0 := hide (F4.kept (unhide HB0))
  replace HB1 := hide (F4.kept (unhide HB1))
  replace HB2 := hide (F4.kept (unhide HB2))
  clear o9 G9 FR4 EX4 F4
  have y4_14 : w4.cell? ⟨w.heap.size + 1 + 1, 14, none⟩ = some (.slice qa s.qn qc) := cells_of (unhide HB2) 14 _ rfl
  have o4_15 : w4.cell? ⟨w.heap.size, 15, none⟩ = some (.slice la s.ln lc) := cells_of (unhide HB0) 15 _ rfl
  have f4 : ∀ i, w4.frozen? ⟨w.heap.size + 1 + 1, i, none⟩ = false := fun i => Lib.frozen_of_heap (unhide HB2) i
  have q4 : ¬ (w.heap.size = w.heap.size + 1 + 1) := by omega
  go_wp2_with (at_builtin; refine StopQ.intro ?_)
  show wpList _ _ _ _ _ _
  clear y4_14 o4_15 f4 q4
  refine (fun (X5 : World) (hX5 : X5 = _) => ?_ : ∀ X, X = _ → wpList _ _ _ _ _ X) _ rfl
  have FR5 : Fr (fun q => q = w.heap.size + 1 + 1) w4 X5 := by
    rw [hX5]
    repeat' first | refine Fr.setCell (S := fun q => q = w.heap.size + 1 + 1) ?_ (a := ⟨w.heap.size + 1 + 1, _, none⟩) rfl _ | exact Fr.refl _ _
  have EX5 : Ext w X5 := FR5.ext E4 (fun q hq => by omega)
  have HB2x : Hid (X5.heap[w.heap.size + 1 + 1]? = some (.cells #[.string s.pr, .int .i64 s.cols, .int .i64 s.rows, .string s.la, .string s.lb, .string s.lc, .slice u1a s.un u1c, .slice h2a s.kh.length h2c, .bool s.kp, .bool s.nav, .slice p3a s.pn p3c, .int .i64 s.at9, .string s.dr, .bool s.st, .slice q4a s.qn q4c, .slice la s.ln lc, .slice da s.dn dc] 37 (0, 0))) := hide (by rw [hX5]; exact (set_blk (i := 14) (v := .slice q4a s.qn q4c) (unhide HB2)))
  replace HB0 := hide (FR5.kept (unhide HB0) (by omega))
  replace HB1 := hide (FR5.kept (unhide HB1) (by omega))
  replace HB2 := HB2x
  clear HB2x hX5
  replace O1 := hide ((unhide O1).fr FR5 (fun g hg e9 => by have z9 := ((unhide O1).lt g hg).1; have s9 := unhide BB; have t1 := unhide T1; have t2 := unhide T2; have t3 := unhide T3; have t4 := unhide T4; have s2 := unhide S2; have s3 := unhide S3; have s4 := unhide S4; omega))
  replace O2 := hide (FR5.owns (unhide O2) (fun g hg e9 => by have z9 := ((unhide O2).lt g hg).1; have s9 := unhide BB; have t1 := unhide T1; have t2 := unhide T2; have t3 := unhide T3; have t4 := unhide T4; have s2 := unhide S2; have s3 := unhide S3; have s4 := unhide S4; omega))
  replace O3 := hide ((unhide O3).fr FR5 (fun g hg e9 => by have z9 := ((unhide O3).lt g hg).1; have s9 := unhide BB; have t1 := unhide T1; have t2 := unhide T2; have t3 := unhide T3; have t4 := unhide T4; have s2 := unhide S2; have s3 := unhide S3; have s4 := unhide S4; omega))
  replace O4 := hide ((unhide O4).fr FR5 (fun g hg e9 => by have z9 := ((unhide O4).lt g hg).1; have s9 := unhide BB; have t1 := unhide T1; have t2 := unhide T2; have t3 := unhide T3; have t4 := unhide T4; have s2 := unhide S2; have s3 := unhide S3; have s4 := unhide S4; omega))
  have S5 := hide FR5.size
  refine wpList_app rfl _ _ 28 rfl X5.heap.size 9 ic (.string { data := #[] }) 1 16 Tryz.underlying28 hic hc0 hc1 hc2 rfl (by decide) _ 0 [] rfl (owns_nil _ _ _ _) _ s.ln (strL s.lt s.ln) rfl ((unhide hO) _ EX5) (by unfold maxLen; omega) (by omega) (Nat.le_refl _) ?_
  intro v9 w5 o9 G9 _
  have F5 : Ext X5 w5 := (Ext.refl X5).grown G9 (fun q hq => by cases hq)
  have E5 := EX5.trans F5
  rw [Nat.zero_add, List.nil_append] at o9
  obtain ⟨l5a, l5c, rfl⟩ := owns_slice o9
  have O5 := hide (own_strL o9)
  have T5 := hide F5.size
  have LT5 := hide (fun g hg => (unhide O5).lt g hg)
  replace O1 := hide ((unhide O1).ext F5)
  replace O2 := hide (F5.owns (unhide O2))
  replace O3 := hide ((unhide O3).ext F5)
  replace O4 := hide ((unhide O4).ext F5)
  replace HB0 := hide (F5.kept (unhide HB0))
  replace HB1 := hide (F5.kept (unhide HB1))
  replace HB2 := hide (F5.kept (unhide HB2))
  clear o9 G9 FR5 EX5 F5
  have y5_15 : w5.cell? ⟨w.heap.size + 1 + 1, 15, none⟩ = some (.slice la s.ln lc) := cells_of (unhide HB2) 15 _ rfl
  have o5_16 : w5.cell? ⟨w.heap.size, 16, none⟩ = some (.slice da s.dn dc) := cells_of (unhide HB0) 16 _ rfl
  have f5 : ∀ i, w5.frozen? ⟨w.heap.size + 1 + 1, i, none⟩ = false := fun i => Lib.frozen_of_heap (unhide HB2) i
  have q5 : ¬ (w.heap.size = w.heap.size + 1 + 1) := by omega
  go_wp2_with (at_builtin; refine StopQ.intro ?_)
  show wpList _ _ _ _ _ _
  clear y5_15 o5_16 f5 q5
  refine (fun (X6 : World) (hX6 : X6 = _) => ?_ : ∀ X, X = _ → wpList _ _ _ _ _ X) _ rfl
  have FR6 : Fr (fun q => q = w.heap.size + 1 + 1) w5 X6 := by
    rw [hX6]
    repeat' first | refine Fr.setCell (S := fun q => q = w.heap.size + 1 + 1) ?_ (a := ⟨w.heap.size + 1 + 1, _, none⟩) rfl _ | exact Fr.refl _ _
  have EX6 : Ext w X6 := FR6.ext E5 (fun q hq => by omega)
  have HB2x : Hid (X6.heap[w.heap.size + 1 + 1]? = some (.cells #[.string s.pr, .int .i64 s.cols, .int .i64 s.rows, .string s.la, .string s.lb, .string s.lc, .slice u1a s.un u1c, .slice h2a s.kh.length h2c, .bool s.kp, .bool s.nav, .slice p3a s.pn p3c, .int .i64 s.at9, .string s.dr, .bool s.st, .slice q4a s.qn q4c, .slice l5a s.ln l5c, .slice da s.dn dc] 37 (0, 0))) := hide (by rw [hX6]; exact (set_blk (i := 15) (v := .slice l5a s.ln l5c) (unhide HB2)))
  replace HB0 := hide (FR6.kept (unhide HB0) (by omega))
  replace HB1 := hide (FR6.kept (unhide HB1) (by omega))
  replace HB2 := HB2x
  clear HB2x hX6
  replace O1 := hide ((unhide O1).fr FR6 (fun g hg e9 => by have z9 := ((unhide O1).lt g hg).1; have s9 := unhide BB; have t1 := unhide T1; have t2 := unhide T2; have t3 := unhide T3; have t4 := unhide T4; have t5 := unhide T5; have s2 := unhide S2; have s3 := unhide S3; have s4 := unhide S4; have s5 := unhide S5; omega))
  replace O2 := hide (FR6.owns (unhide O2) (fun g hg e9 => by have z9 := ((unhide O2).lt g hg).1; have s9 := unhide BB; have t1 := unhide T1; have t2 := unhide T2; have t3 := unhide T3; have t4 := unhide T4; have t5 := unhide T5; have s2 := unhide S2; have s3 := unhide S3; have s4 := unhide S4; have s5 := unhide S5; omega))
  replace O3 := hide ((unhide O3).fr FR6 (fun g hg e9 => by have z9 := ((unhide O3).lt g hg).1; have s9 := unhide BB; have t1 := unhide T1; have t2 := unhide T2; have t3 := unhide T3; have t4 := unhide T4; have t5 := unhide T5; have s2 := unhide S2; have s3 := unhide S3; have s4 := unhide S4; have s5 := unhide S5; omega))
  replace O4 := hide ((unhide O4).fr FR6 (fun g hg e9 => by have z9 := ((unhide O4).lt g hg).1; have s9 := unhide BB; have t1 := unhide T1; have t2 := unhide T2; have t3 := unhide T3; have t4 := unhide T4; have t5 := unhide T5; have s2 := unhide S2; have s3 := unhide S3; have s4 := unhide S4; have s5 := unhide S5; omega))
  replace O5 := hide ((unhide O5).fr FR6 (fun g hg e9 => by have z9 := ((unhide O5).lt g hg).1; have s9 := unhide BB; have t1 := unhide T1; have t2 := unhide T2; have t3 := unhide T3; have t4 := unhide T4; have t5 := unhide T5; have s2 := unhide S2; have s3 := unhide S3; have s4 := unhide S4; have s5 := unhide S5; omega))
  have S6 := hide FR6.size
  refine wpList_app rfl _ _ 28 rfl X6.heap.size 9 ic (.string { data := #[] }) 1 16 Tryz.underlying28 hic hc0 hc1 hc2 rfl (by decide) _ 0 [] rfl (owns_nil _ _ _ _) _ s.dn (strL s.dt s.dn) rfl ((unhide hD) _ EX6) (by unfold maxLen; omega) (by omega) (Nat.le_refl _) ?_
  intro v9 w6 o9 G9 _
  have F6 : Ext X6 w6 := (Ext.refl X6).grown G9 (fun q hq => by cases hq)
  have E6 := EX6.trans F6
  rw [Nat.zero_add, List.nil_append] at o9
  obtain ⟨d6a, d6c, rfl⟩ := owns_slice o9
  have O6 := hide (own_strL o9)
  have T6 := hide F6.size
  have LT6 := hide (fun g hg => (unhide O6).lt g hg)
  replace O1 := hide ((unhide O1).ext F6)
  replace O2 := hide (F6.owns (unhide O2))
  replace O3 := hide ((unhide O3).ext F6)
  replace O4 := hide ((unhide O4).ext F6)
  replace O5 := hide ((unhide O5).ext F6)
  replace HB0 := hide (F6.kept (unhide HB0))
  replace HB1 := hide (F6.kept (unhide HB1))
  replace HB2 := hide (F6.kept (unhide HB2))
  clear o9 G9 FR6 EX6 F6
  have y6_16 : w6.cell? ⟨w.heap.size + 1 + 1, 16, none⟩ = some (.slice da s.dn dc) := cells_of (unhide HB2) 16 _ rfl
  have f6 : ∀ i, w6.frozen? ⟨w.heap.size + 1 + 1, i, none⟩ = false := fun i => Lib.frozen_of_heap (unhide HB2) i
  have HB2s : Hid ((w6.setCell ⟨w.heap.size + 1 + 1, 16, none⟩ (.slice d6a s.dn d6c)).heap[w.heap.size + 1 + 1]? = some (.cells #[.string s.pr, .int .i64 s.cols, .int .i64 s.rows, .string s.la, .string s.lb, .string s.lc, .slice u1a s.un u1c, .slice h2a s.kh.length h2c, .bool s.kp, .bool s.nav, .slice p3a s.pn p3c, .int .i64 s.at9, .string s.dr, .bool s.st, .slice q4a s.qn q4c, .slice l5a s.ln l5c, .slice d6a s.dn d6c] 37 (0, 0))) := hide (set_blk2 (unhide HB2) rfl)
  have HB1s : Hid ((w6.setCell ⟨w.heap.size + 1 + 1, 16, none⟩ (.slice d6a s.dn d6c)).heap[w.heap.size + 1]? = some (.cells #[.string { data := #[] }, .int .i64 0, .int .i64 0, .string { data := #[] }, .string { data := #[] }, .string { data := #[] }, .slice none 0 0, .slice none 0 0, .bool false, .bool false, .slice none 0 0, .int .i64 0, .string { data := #[] }, .bool false, .slice none 0 0, .slice none 0 0, .slice none 0 0] 37 (0, 0))) := hide (set_else (unhide HB1) (by omega))
  go_wp2_with (first
    | (refine wpList_load_blk rfl 37 _ rfl (w.heap.size + 1 + 1) rfl _ _ _ _ (unhide HB2s) Tryz.underlying37 rfl infoSes ?_)
    | (refine wpList_store_blk rfl 37 _ _ rfl rfl (w.heap.size + 1) rfl _ _ _ rfl (unhide HB1s) infoSes rfl (by simp [Value.oneCell']) ?_; intro Y HB9 hU9; have HU9 := hide hU9; have HB9' := hide HB9; clear hU9 HB9))
  have HB9 := unhide HB9'
  have hU : Fr (fun q => q = w.heap.size + 1 + 1 ∨ q = w.heap.size + 1) w6 Y := (Fr.setCell (S := fun q => q = w.heap.size + 1 + 1 ∨ q = w.heap.size + 1) (Fr.refl _ _) (a := ⟨w.heap.size + 1 + 1, 16, none⟩) (.inl rfl) _).tr ((unhide HU9).mono (fun q hq => .inr hq))
  clear HU9 HB9' y6_16 f6
  have v0 : Y.cell? ⟨w.heap.size + 1, 0, none⟩ = some (.string s.pr) := cells_of HB9 0 _ rfl
  have v1 : Y.cell? ⟨w.heap.size + 1, 1, none⟩ = some (.int .i64 s.cols) := cells_of HB9 1 _ rfl
  have v2 : Y.cell? ⟨w.heap.size + 1, 2, none⟩ = some (.int .i64 s.rows) := cells_of HB9 2 _ rfl
  have v3 : Y.cell? ⟨w.heap.size + 1, 3, none⟩ = some (.string s.la) := cells_of HB9 3 _ rfl
  have v4 : Y.cell? ⟨w.heap.size + 1, 4, none⟩ = some (.string s.lb) := cells_of HB9 4 _ rfl
  have v5 : Y.cell? ⟨w.heap.size + 1, 5, none⟩ = some (.string s.lc) := cells_of HB9 5 _ rfl
  have v6 : Y.cell? ⟨w.heap.size + 1, 6, none⟩ = some (.slice u1a s.un u1c) := cells_of HB9 6 _ rfl
  have v7 : Y.cell? ⟨w.heap.size + 1, 7, none⟩ = some (.slice h2a s.kh.length h2c) := cells_of HB9 7 _ rfl
  have v8 : Y.cell? ⟨w.heap.size + 1, 8, none⟩ = some (.bool s.kp) := cells_of HB9 8 _ rfl
  have v9 : Y.cell? ⟨w.heap.size + 1, 9, none⟩ = some (.bool s.nav) := cells_of HB9 9 _ rfl
  have v10 : Y.cell? ⟨w.heap.size + 1, 10, none⟩ = some (.slice p3a s.pn p3c) := cells_of HB9 10 _ rfl
  have v11 : Y.cell? ⟨w.heap.size + 1, 11, none⟩ = some (.int .i64 s.at9) := cells_of HB9 11 _ rfl
  have v12 : Y.cell? ⟨w.heap.size + 1, 12, none⟩ = some (.string s.dr) := cells_of HB9 12 _ rfl
  have v13 : Y.cell? ⟨w.heap.size + 1, 13, none⟩ = some (.bool s.st) := cells_of HB9 13 _ rfl
  have v14 : Y.cell? ⟨w.heap.size + 1, 14, none⟩ = some (.slice q4a s.qn q4c) := cells_of HB9 14 _ rfl
  have v15 : Y.cell? ⟨w.heap.size + 1, 15, none⟩ = some (.slice l5a s.ln l5c) := cells_of HB9 15 _ rfl
  have v16 : Y.cell? ⟨w.heap.size + 1, 16, none⟩ = some (.slice d6a s.dn d6c) := cells_of HB9 16 _ rfl
  refine bodyPost_ret (v := sesV s (.slice u1a s.un u1c) (.slice h2a s.kh.length h2c) (.slice p3a s.pn p3c) (.slice q4a s.qn q4c) (.slice l5a s.ln l5c) (.slice d6a s.dn d6c)) (by simp [results, Tryz.results64, go_sem, sesV, v0, v1, v2, v3, v4, v5, v6, v7, v8, v9, v10, v11, v12, v13, v14, v15, v16]) rfl ⟨_, _, _, _, _, _, rfl, ?_⟩
  have t1 := unhide T1
  have s2 := unhide S2
  have t2 := unhide T2
  have s3 := unhide S3
  have t3 := unhide T3
  have s4 := unhide S4
  have t4 := unhide T4
  have s5 := unhide S5
  have t5 := unhide T5
  have s6 := unhide S6
  have t6 := unhide T6
  have bb := unhide BB
  refine ⟨⟨?_, ?_, ?_, ?_, ?_, ?_, ?_⟩, hU.ext E6 (fun q hq => by omega)⟩
  · exact ((unhide O1).fr hU (fun g hg e9 => by have z9 := ((unhide O1).lt g hg).1; omega)).mono (by omega)
  · exact owns_mono (hU.owns (unhide O2) (fun g hg e9 => by have z9 := ((unhide O2).lt g hg).1; omega)) (by omega)
  · exact ((unhide O3).fr hU (fun g hg e9 => by have z9 := ((unhide O3).lt g hg).1; omega)).mono (by omega)
  · exact ((unhide O4).fr hU (fun g hg e9 => by have z9 := ((unhide O4).lt g hg).1; omega)).mono (by omega)
  · exact ((unhide O5).fr hU (fun g hg e9 => by have z9 := ((unhide O5).lt g hg).1; omega)).mono (by omega)
  · exact ((unhide O6).fr hU (fun g hg e9 => by have z9 := ((unhide O6).lt g hg).1; omega)).mono (by omega)
  · have a01 : Apart (.slice u1a s.un u1c) (.slice h2a s.kh.length h2c) := fun g h1 h2 => by have m1 := (unhide LT1) g h1; have m2 := (unhide LT2) g h2; omega
    have a02 : Apart (.slice u1a s.un u1c) (.slice p3a s.pn p3c) := fun g h1 h2 => by have m1 := (unhide LT1) g h1; have m2 := (unhide LT3) g h2; omega
    have a03 : Apart (.slice u1a s.un u1c) (.slice q4a s.qn q4c) := fun g h1 h2 => by have m1 := (unhide LT1) g h1; have m2 := (unhide LT4) g h2; omega
    have a04 : Apart (.slice u1a s.un u1c) (.slice l5a s.ln l5c) := fun g h1 h2 => by have m1 := (unhide LT1) g h1; have m2 := (unhide LT5) g h2; omega
    have a05 : Apart (.slice u1a s.un u1c) (.slice d6a s.dn d6c) := fun g h1 h2 => by have m1 := (unhide LT1) g h1; have m2 := (unhide LT6) g h2; omega
    have a12 : Apart (.slice h2a s.kh.length h2c) (.slice p3a s.pn p3c) := fun g h1 h2 => by have m1 := (unhide LT2) g h1; have m2 := (unhide LT3) g h2; omega
    have a13 : Apart (.slice h2a s.kh.length h2c) (.slice q4a s.qn q4c) := fun g h1 h2 => by have m1 := (unhide LT2) g h1; have m2 := (unhide LT4) g h2; omega
    have a14 : Apart (.slice h2a s.kh.length h2c) (.slice l5a s.ln l5c) := fun g h1 h2 => by have m1 := (unhide LT2) g h1; have m2 := (unhide LT5) g h2; omega
    have a15 : Apart (.slice h2a s.kh.length h2c) (.slice d6a s.dn d6c) := fun g h1 h2 => by have m1 := (unhide LT2) g h1; have m2 := (unhide LT6) g h2; omega
    have a23 : Apart (.slice p3a s.pn p3c) (.slice q4a s.qn q4c) := fun g h1 h2 => by have m1 := (unhide LT3) g h1; have m2 := (unhide LT4) g h2; omega
    have a24 : Apart (.slice p3a s.pn p3c) (.slice l5a s.ln l5c) := fun g h1 h2 => by have m1 := (unhide LT3) g h1; have m2 := (unhide LT5) g h2; omega
    have a25 : Apart (.slice p3a s.pn p3c) (.slice d6a s.dn d6c) := fun g h1 h2 => by have m1 := (unhide LT3) g h1; have m2 := (unhide LT6) g h2; omega
    have a34 : Apart (.slice q4a s.qn q4c) (.slice l5a s.ln l5c) := fun g h1 h2 => by have m1 := (unhide LT4) g h1; have m2 := (unhide LT5) g h2; omega
    have a35 : Apart (.slice q4a s.qn q4c) (.slice d6a s.dn d6c) := fun g h1 h2 => by have m1 := (unhide LT4) g h1; have m2 := (unhide LT6) g h2; omega
    have a45 : Apart (.slice l5a s.ln l5c) (.slice d6a s.dn d6c) := fun g h1 h2 => by have m1 := (unhide LT5) g h1; have m2 := (unhide LT6) g h2; omega
    exact (.cons (by intro b hb; simp only [List.mem_cons, List.not_mem_nil, or_false] at hb; rcases hb with rfl | rfl | rfl | rfl | rfl <;> first | exact a01 | exact a02 | exact a03 | exact a04 | exact a05) (.cons (by intro b hb; simp only [List.mem_cons, List.not_mem_nil, or_false] at hb; rcases hb with rfl | rfl | rfl | rfl <;> first | exact a12 | exact a13 | exact a14 | exact a15) (.cons (by intro b hb; simp only [List.mem_cons, List.not_mem_nil, or_false] at hb; rcases hb with rfl | rfl | rfl <;> first | exact a23 | exact a24 | exact a25) (.cons (by intro b hb; simp only [List.mem_cons, List.not_mem_nil, or_false] at hb; rcases hb with rfl | rfl <;> first | exact a34 | exact a35) (.cons (by intro b hb; simp only [List.mem_cons, List.not_mem_nil, or_false] at hb; subst hb; exact a45) (.cons (by intro b hb; cases hb) .nil))))))
end Go.Proofs.YtgdadidppelgdaaGreatDoor
