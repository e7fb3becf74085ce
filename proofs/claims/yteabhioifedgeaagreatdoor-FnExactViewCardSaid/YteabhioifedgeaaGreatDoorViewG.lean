import Derived.Test.YteabhioifedgeaaGreatDoorLayI
import Derived.Test.YteabhioifedgeaaGreatDoorLayI2
import Derived.Test.YteabhioifedgeaaGreatDoorLayS2
import Derived.Test.YteabhioifedgeaaGreatDoorSesOkI
import Derived.Test.YteabhioifedgeaaGreatDoorWhole
import Derived.Test.YteabhioifedgeaaGreatDoorShelfB
import Derived.Shelf.Strings.Trim
import Derived.Deep.DeepCutAuto
namespace Go.Proofs.YteabhioifedgeaaGreatDoor
open Go.RowKit

/-- The block of a session that is valid: its rows, its cursor. -/
structure BlkD where
  n : Nat
  tx : Nat → ByteArray
  R : Nat
  C : Int
/-- What Layout gives for a session. -/
def SS.cs (s : SS) : List (List Int × Int) := cutC (baL s.pr) ++ cutC (baL s.la) ++ cutC (baL s.lb)
def SS.p0 (s : SS) : Nat := (cutC (baL s.pr)).length + (cutC (baL s.la)).length
def SS.blk (s : SS) : BlkD := { n := layCnt s.cs s.cols.toNat s.p0 s.rows.toNat, tx := layT s.cs s.cols.toNat s.p0 s.rows.toNat, R := layRow s.cs s.cols.toNat s.p0 - layFr s.cs s.cols.toNat s.p0 s.rows.toNat, C := layCol s.cs s.cols.toNat s.p0 }
theorem SS.blk_lt (s : SS) (h : sizeB s.cols s.rows = true) : s.blk.R < s.blk.n ∧ s.blk.n ≤ 100 := by
  obtain ⟨cn, rn, e1, e2, _, _, h1, h2⟩ := sizeB_open h
  have e3 : s.rows.toNat = rn := by omega
  have := lay_row_lt (cs := s.cs) (cols := s.cols.toNat) (p := s.p0) (rows := s.rows.toNat) (by omega)
  refine ⟨this.1, ?_⟩
  show layCnt _ _ _ _ ≤ 100
  unfold layCnt
  omega
theorem SS.blk_size (s : SS) (hz : s.Sz) (i : Nat) : (s.blk.tx i).size ≤ 75497472 := by
  have h := (((cuts_one (baL s.pr)).app (cuts_one (baL s.la))).app (cuts_one (baL s.lb))).part
  have k1 := hz.pr
  have k2 := hz.la
  have k3 := hz.lb
  show (layT s.cs s.cols.toNat s.p0 s.rows.toNat i).size ≤ _
  unfold layT layC
  rw [toBA_size]
  refine Nat.le_trans (txT_len _ _) ?_
  have := (h (at0 (layS s.cs s.cols.toNat s.p0 ++ [(s.cs.length : Int)]) (layFr s.cs s.cols.toNat s.p0 s.rows.toNat + i)).toNat (at0 (layS s.cs s.cols.toNat s.p0 ++ [(s.cs.length : Int)]) (layFr s.cs s.cols.toNat s.p0 s.rows.toNat + i + 1)).toNat).1
  rw [baL_len, baL_len, baL_len] at this
  unfold SS.cs at this ⊢
  omega
set_option maxRecDepth 10000 in
set_option maxHeartbeats 2000000 in
theorem blockOf_any (s : SS) (u h p q l d : Value) (w : World) (hA : SesAt w s u h p q l d) (hz : s.Sz) (hs : sizeB s.cols s.rows = true) (hT : Laid w) :
    Calls Tryz.prog 105 #[sesV s u h p q l d] w fun e w' => ∃ v, e = .returned (.agg #[v, .int .i64 (s.blk.R : Int), .int .i64 s.blk.C]) ∧ Own1 w' w.heap.size 9 v s.blk.n (fun i => .string (s.blk.tx i)) ∧ Ext w w' := by
  obtain ⟨ua, uc, ha, hc, pa, pc, qa, qc, la, lc, da, dc, rfl, rfl, rfl, rfl, rfl, rfl⟩ := hA.forms
  obtain ⟨R, hR⟩ : ∃ R : Int, R = (s.blk.R : Int) := ⟨_, rfl⟩
  obtain ⟨C, hC⟩ : ∃ C : Int, C = s.blk.C := ⟨_, rfl⟩
  have hcon : Hid (∀ W, Ext w W → Calls Tryz.prog 207 #[.string s.pr, .agg #[.string s.la, .string s.lb, .string s.lc, .slice ua s.un uc], .int .i64 s.cols, .int .i64 s.rows] W fun e w' => ∃ va vc, e = .returned (.agg #[.slice va s.blk.n vc, .int .i64 R, .int .i64 C]) ∧ Hid (Own1 w' W.heap.size 9 (.slice va s.blk.n vc) s.blk.n (fun i => .string (s.blk.tx i))) ∧ Ext W w') := by
    refine hide (fun W hW => ?_)
    rw [hR, hC]
    obtain ⟨cn, rn, e1, e2, _, _, h1, _⟩ := sizeB_open hs
    have e3 : s.cols.toNat = cn := by omega
    have e4 : s.rows.toNat = rn := by omega
    have hk := implLayout_yes (baL s.pr) (baL s.la) (baL s.lb) s.lc ua s.un uc cn rn W (by rw [← e1, ← e2]; exact hs) (baL_bytes _) (baL_bytes _) (baL_bytes _) (by rw [baL_len]; exact hz.pr) (by rw [baL_len]; exact hz.la) (by rw [baL_len]; exact hz.lb) (hT.below hW.below)
    rw [toBA_baL, toBA_baL, toBA_baL, ← e1, ← e2] at hk
    refine hk.mono ?_
    rintro e w' ⟨v, rfl, o, F⟩
    obtain ⟨va, vc, rfl⟩ := o.slice
    have hlt := (lay_row_lt (cs := s.cs) (cols := s.cols.toNat) (p := s.p0) (rows := s.rows.toNat) (by omega)).2
    unfold SS.blk
    dsimp only
    unfold SS.cs SS.p0 at hlt ⊢
    rw [e3, e4] at hlt ⊢
    refine ⟨va, vc, ?_, hide o, F⟩
    rw [Int.ofNat_sub hlt]
  clear hA hz hs
  rw [← hR, ← hC]
  clear hR hC
  obtain ⟨n, hn⟩ : ∃ n, n = s.blk.n := ⟨_, rfl⟩
  obtain ⟨tx, htx⟩ : ∃ tx, tx = s.blk.tx := ⟨_, rfl⟩
  rw [← hn, ← htx] at hcon ⊢
  clear hn htx
  obtain ⟨V, hV⟩ : ∃ V, V = (w.alloc (.cells #[.string s.pr, .int .i64 s.cols, .int .i64 s.rows, .string s.la, .string s.lb, .string s.lc, .slice ua s.un uc, .slice ha s.kh.length hc, .bool s.kp, .bool s.nav, .slice pa s.pn pc, .int .i64 s.at9, .string s.dr, .bool s.st, .slice qa s.qn qc, .slice la s.ln lc, .slice da s.dn dc] 63)).alloc (.cells #[.slice none 0 0, .int .i64 0, .int .i64 0] 46) := ⟨_, rfl⟩
  have E0 : Ext w V := by rw [hV]; exact ((Ext.refl w).alloc _).alloc _
  have sz0 : w.heap.size + 1 + 1 = V.heap.size := by rw [hV]; simp
  have HB1 : Hid (V.heap[w.heap.size + 1]? = some (.cells #[.slice none 0 0, .int .i64 0, .int .i64 0] 46 (0, 0))) := hide (by rw [hV]; have h := new_block (w.alloc (.cells #[.string s.pr, .int .i64 s.cols, .int .i64 s.rows, .string s.la, .string s.lb, .string s.lc, .slice ua s.un uc, .slice ha s.kh.length hc, .bool s.kp, .bool s.nav, .slice pa s.pn pc, .int .i64 s.at9, .string s.dr, .bool s.st, .slice qa s.qn qc, .slice la s.ln lc, .slice da s.dn dc] 63)) (.cells #[.slice none 0 0, .int .i64 0, .int .i64 0] 46); rw [show (w.alloc (.cells #[.string s.pr, .int .i64 s.cols, .int .i64 s.rows, .string s.la, .string s.lb, .string s.lc, .slice ua s.un uc, .slice ha s.kh.length hc, .bool s.kp, .bool s.nav, .slice pa s.pn pc, .int .i64 s.at9, .string s.dr, .bool s.st, .slice qa s.qn qc, .slice la s.ln lc, .slice da s.dn dc] 63)).heap.size = w.heap.size + 1 by simp] at h; exact h)
  have HV := hide hV
  clear hV
  unfold sesV
  go_enter Tryz.func105, Tryz.ntmps105
  go_wp2_with fail
  rw [← unhide HV]
  clear HV
  refine ((unhide hcon) V E0).mono ?_
  rintro e w1 ⟨va, vc, rfl, O1, F1⟩
  replace HB1 := hide (F1.kept (unhide HB1))
  have b0 : w1.cell? ⟨w.heap.size + 1, 0, none⟩ = some (.slice none 0 0) := cells_of (unhide HB1) 0 _ rfl
  have b1 : w1.cell? ⟨w.heap.size + 1, 1, none⟩ = some (.int .i64 0) := cells_of (unhide HB1) 1 _ rfl
  have b2 : w1.cell? ⟨w.heap.size + 1, 2, none⟩ = some (.int .i64 0) := cells_of (unhide HB1) 2 _ rfl
  have f1 : ∀ i, w1.frozen? ⟨w.heap.size + 1, i, none⟩ = false := fun i => Lib.frozen_of_heap (unhide HB1) i
  go_wp2
  refine bodyPost_ret (v := .agg #[.slice va n vc, .int .i64 R, .int .i64 C]) (by simp [results, Tryz.results105, go_sem, b0, b1, b2]) rfl ⟨_, rfl, ?_⟩
  refine (fun (U : World) (hU : Fr (fun q => q = w.heap.size + 1) w1 U) => ?_ : ∀ U, Fr (fun q => q = w.heap.size + 1) w1 U → Own1 U w.heap.size 9 (.slice va n vc) n (fun i => .string (tx i)) ∧ Ext w U) _ ?_
  · refine ⟨((unhide O1).fr hU (fun g hg e9 => by have := ((unhide O1).lt g hg).1; omega)).mono (by omega), hU.ext (E0.trans F1) (fun q hq => by omega)⟩
  · exact Fr.setCell (S := fun q => q = w.heap.size + 1) (Fr.setCell (S := fun q => q = w.heap.size + 1) (Fr.setCell (S := fun q => q = w.heap.size + 1) (Fr.refl _ _) (a := ⟨w.heap.size + 1, 0, none⟩) rfl _) (a := ⟨w.heap.size + 1, 1, none⟩) rfl _) (a := ⟨w.heap.size + 1, 2, none⟩) rfl _
set_option maxRecDepth 10000 in
set_option maxHeartbeats 2000000 in
theorem l7Block_any (s : SS) (u h p q l d : Value) (w : World) (hA : SesAt w s u h p q l d) (hz : s.Sz) (hs : sizeB s.cols s.rows = true) :
    Calls Tryz.prog 103 #[sesV s u h p q l d] w fun e w' => ∃ v, e = .returned (.agg #[v, .int .i64 (s.blk.R : Int), .int .i64 s.blk.C]) ∧ Own1 w' w.heap.size 9 v s.blk.n (fun i => .string (s.blk.tx i)) ∧ Ext w w' := by
  obtain ⟨ua, uc, ha, hc, pa, pc, qa, qc, la, lc, da, dc, rfl, rfl, rfl, rfl, rfl, rfl⟩ := hA.forms
  obtain ⟨R, hR⟩ : ∃ R : Int, R = (s.blk.R : Int) := ⟨_, rfl⟩
  obtain ⟨C, hC⟩ : ∃ C : Int, C = s.blk.C := ⟨_, rfl⟩
  have hcon : Hid (∀ W, Ext w W → Calls Tryz.prog 90 #[.string s.pr, .agg #[.string s.la, .string s.lb, .string s.lc, .slice ua s.un uc], .int .i64 s.cols, .int .i64 s.rows] W fun e w' => ∃ va vc, e = .returned (.agg #[.slice va s.blk.n vc, .int .i64 R, .int .i64 C]) ∧ Hid (Own1 w' W.heap.size 9 (.slice va s.blk.n vc) s.blk.n (fun i => .string (s.blk.tx i))) ∧ Ext W w') := by
    refine hide (fun W hW => ?_)
    rw [hR, hC]
    obtain ⟨cn, rn, e1, e2, _, _, h1, _⟩ := sizeB_open hs
    have e3 : s.cols.toNat = cn := by omega
    have e4 : s.rows.toNat = rn := by omega
    have hk := specLayout_yes (baL s.pr) (baL s.la) (baL s.lb) s.lc ua s.un uc cn rn W (by rw [← e1, ← e2]; exact hs) (baL_bytes _) (baL_bytes _) (baL_bytes _) (by rw [baL_len]; exact hz.pr) (by rw [baL_len]; exact hz.la) (by rw [baL_len]; exact hz.lb)
    rw [toBA_baL, toBA_baL, toBA_baL, ← e1, ← e2] at hk
    refine hk.mono ?_
    rintro e w' ⟨v, rfl, o, F⟩
    obtain ⟨va, vc, rfl⟩ := o.slice
    have hlt := (lay_row_lt (cs := s.cs) (cols := s.cols.toNat) (p := s.p0) (rows := s.rows.toNat) (by omega)).2
    unfold SS.blk
    dsimp only
    unfold SS.cs SS.p0 at hlt ⊢
    rw [e3, e4] at hlt ⊢
    refine ⟨va, vc, ?_, hide o, F⟩
    rw [Int.ofNat_sub hlt]
  clear hA hz hs
  rw [← hR, ← hC]
  clear hR hC
  obtain ⟨n, hn⟩ : ∃ n, n = s.blk.n := ⟨_, rfl⟩
  obtain ⟨tx, htx⟩ : ∃ tx, tx = s.blk.tx := ⟨_, rfl⟩
  rw [← hn, ← htx] at hcon ⊢
  clear hn htx
  obtain ⟨V, hV⟩ : ∃ V, V = (w.alloc (.cells #[.string s.pr, .int .i64 s.cols, .int .i64 s.rows, .string s.la, .string s.lb, .string s.lc, .slice ua s.un uc, .slice ha s.kh.length hc, .bool s.kp, .bool s.nav, .slice pa s.pn pc, .int .i64 s.at9, .string s.dr, .bool s.st, .slice qa s.qn qc, .slice la s.ln lc, .slice da s.dn dc] 63)).alloc (.cells #[.slice none 0 0, .int .i64 0, .int .i64 0] 46) := ⟨_, rfl⟩
  have E0 : Ext w V := by rw [hV]; exact ((Ext.refl w).alloc _).alloc _
  have sz0 : w.heap.size + 1 + 1 = V.heap.size := by rw [hV]; simp
  have HB1 : Hid (V.heap[w.heap.size + 1]? = some (.cells #[.slice none 0 0, .int .i64 0, .int .i64 0] 46 (0, 0))) := hide (by rw [hV]; have h := new_block (w.alloc (.cells #[.string s.pr, .int .i64 s.cols, .int .i64 s.rows, .string s.la, .string s.lb, .string s.lc, .slice ua s.un uc, .slice ha s.kh.length hc, .bool s.kp, .bool s.nav, .slice pa s.pn pc, .int .i64 s.at9, .string s.dr, .bool s.st, .slice qa s.qn qc, .slice la s.ln lc, .slice da s.dn dc] 63)) (.cells #[.slice none 0 0, .int .i64 0, .int .i64 0] 46); rw [show (w.alloc (.cells #[.string s.pr, .int .i64 s.cols, .int .i64 s.rows, .string s.la, .string s.lb, .string s.lc, .slice ua s.un uc, .slice ha s.kh.length hc, .bool s.kp, .bool s.nav, .slice pa s.pn pc, .int .i64 s.at9, .string s.dr, .bool s.st, .slice qa s.qn qc, .slice la s.ln lc, .slice da s.dn dc] 63)).heap.size = w.heap.size + 1 by simp] at h; exact h)
  have HV := hide hV
  clear hV
  unfold sesV
  go_enter Tryz.func103, Tryz.ntmps103
  go_wp2_with fail
  rw [← unhide HV]
  clear HV
  refine ((unhide hcon) V E0).mono ?_
  rintro e w1 ⟨va, vc, rfl, O1, F1⟩
  replace HB1 := hide (F1.kept (unhide HB1))
  have b0 : w1.cell? ⟨w.heap.size + 1, 0, none⟩ = some (.slice none 0 0) := cells_of (unhide HB1) 0 _ rfl
  have b1 : w1.cell? ⟨w.heap.size + 1, 1, none⟩ = some (.int .i64 0) := cells_of (unhide HB1) 1 _ rfl
  have b2 : w1.cell? ⟨w.heap.size + 1, 2, none⟩ = some (.int .i64 0) := cells_of (unhide HB1) 2 _ rfl
  have f1 : ∀ i, w1.frozen? ⟨w.heap.size + 1, i, none⟩ = false := fun i => Lib.frozen_of_heap (unhide HB1) i
  go_wp2
  refine bodyPost_ret (v := .agg #[.slice va n vc, .int .i64 R, .int .i64 C]) (by simp [results, Tryz.results103, go_sem, b0, b1, b2]) rfl ⟨_, rfl, ?_⟩
  refine (fun (U : World) (hU : Fr (fun q => q = w.heap.size + 1) w1 U) => ?_ : ∀ U, Fr (fun q => q = w.heap.size + 1) w1 U → Own1 U w.heap.size 9 (.slice va n vc) n (fun i => .string (tx i)) ∧ Ext w U) _ ?_
  · refine ⟨((unhide O1).fr hU (fun g hg e9 => by have := ((unhide O1).lt g hg).1; omega)).mono (by omega), hU.ext (E0.trans F1) (fun q hq => by omega)⟩
  · exact Fr.setCell (S := fun q => q = w.heap.size + 1) (Fr.setCell (S := fun q => q = w.heap.size + 1) (Fr.setCell (S := fun q => q = w.heap.size + 1) (Fr.refl _ _) (a := ⟨w.heap.size + 1, 0, none⟩) rfl _) (a := ⟨w.heap.size + 1, 1, none⟩) rfl _) (a := ⟨w.heap.size + 1, 2, none⟩) rfl _
end Go.Proofs.YteabhioifedgeaaGreatDoor

namespace Go.Proofs.YteabhioifedgeaaGreatDoor
open Go.RowKit

/-- Where a walk shall stand. -/
def StopP (p : Prop) : Prop := p
theorem StopP.intro {p : Prop} (h : StopP p) : p := h
theorem infoSesV : (Tryz.prog.info? 63).map (·.size) = some 17 := by kernel_rfl
set_option maxRecDepth 10000 in
set_option maxHeartbeats 2000000 in
theorem asShown_any (v : Value) (n : Nat) (tx : Nat → ByteArray) (w : World) (hv : Row1At w v n (fun j => .string (tx j))) (hn : n ≤ 1048576) (hx : ∀ j, j < n → (tx j).size ≤ 9223372036854775807) :
    Calls Tryz.prog 116 #[v] w fun e w' => ∃ v', e = .returned v' ∧ Own1 w' w.heap.size 9 v' n (fun i => .string (trimS (tx i))) ∧ Ext w w' := by
  obtain ⟨ic, hic, hc0, hc1, hc2⟩ := info_parts infoStrs
  obtain ⟨ao, ca, rfl, hca, hxa⟩ := hv
  have HX := hide hxa
  have HZ := hide hx
  clear hxa hx
  go_enter Tryz.func116, Tryz.ntmps116
  go_wp2
  go_loopw [3, 8] (fun o i wr => ∃ k : Nat, k ≤ n ∧ i = .int .i64 k ∧ Hid (wr.ownsRow w.heap.size 9 1 o k (strL (fun i => trimS (tx i)) k)) ∧ Ext w wr) (fun _ i _ => n - (intOf i).toNat)
  case atStart => exact ⟨0, Nat.zero_le _, rfl, hide (owns_nil _ _ _ _), Ext.refl _⟩
  case round =>
    obtain ⟨k, hk, rfl, HO, hext⟩ := hrel
    have hsz := hext.size
    by_cases hlt : k < n
    · obtain ⟨b, off, hao, hc⟩ := (unhide HX) (by omega)
      subst hao
      have g1 := hext.cell (hc k hlt)
      clear hc
      have bk : (k : Int) < (n : Int) := by omega
      have hcon := hide (Any.strings_TrimRight_one Tryz.lays162 (tx k) 32 (by decide) wr ((unhide HZ) k hlt))
      have hst : Hid (strL (fun i => trimS (tx i)) (k + 1) = strL (fun i => trimS (tx i)) k ++ [.string (trimS (tx k))]) := hide (strL_succ _ _)
      go_wp2_with (first
        | (go_at_call 183; refine (unhide hcon).mono ?_; rintro e w4 ⟨rfl, rfl⟩; rw [trimS_right])
        | (at_builtin; go_must (refine wpList_app rfl _ _ 24 rfl w.heap.size 9 ic (.string { data := #[] }) 1 16 Tryz.underlying24 hic hc0 hc1 hc2 rfl (by decide) _ _ _ rfl ((unhide HO).alloc _) _ 1 [.string (trimS (tx k))] rfl (Src.made _ _ _ rfl (by simp [Value.oneCell'])) (by unfold maxLen; omega) (by omega) (by simp; omega) ?_); intro v5 w5 o5 G5 _; rw [← unhide hst] at o5; have HO5 := hide o5; have E5 := hide ((hext.alloc _).grown G5 (fun q hq => ((unhide HO).lt q hq).1)); clear o5 G5))
      go_roundw
      case rel => exact ⟨k + 1, by omega, by go_num, HO5, unhide E5⟩
      case measure => simp [intOf]; omega
    · obtain rfl : k = n := by omega
      have hb9 : ¬ (k : Int) < (k : Int) := by omega
      go_wp2
      go_ret
      exact ⟨_, rfl, own_strL (unhide HO), hext⟩
set_option maxRecDepth 10000 in
set_option maxHeartbeats 4000000 in
theorem implView_no (s : SS) (u h p q l d : Value) (w : World) (hA : SesAt w s u h p q l d) (hz : s.Sz) (hT : Tabs3 w) (hok : ¬ SesP s) :
    Calls Tryz.prog 44 #[sesV s u h p q l d] w fun e w' => e = .returned (.tuple #[.slice none 0 0, .int .i64 0, .int .i64 0]) ∧ Ext w w' := by
  obtain ⟨ua, uc, ha, hc, pa, pc, qa, qc, la, lc, da, dc, rfl, rfl, rfl, rfl, rfl, rfl⟩ := hA.forms
  have hcS := hide (fun W (hW : Ext w W) => implSessionOk_any s _ _ _ _ _ _ W (hA.ext hW) hz (hT.ext hW) false (by simp [hok]))
  clear hA hz hT hok
  obtain ⟨V, hV⟩ : ∃ V, V = w.alloc (.cells #[.string s.pr, .int .i64 s.cols, .int .i64 s.rows, .string s.la, .string s.lb, .string s.lc, .slice ua s.un uc, .slice ha s.kh.length hc, .bool s.kp, .bool s.nav, .slice pa s.pn pc, .int .i64 s.at9, .string s.dr, .bool s.st, .slice qa s.qn qc, .slice la s.ln lc, .slice da s.dn dc] 63) := ⟨_, rfl⟩
  have E0 : Ext w V := by rw [hV]; exact (Ext.refl w).alloc _
  have HB : Hid (V.heap[w.heap.size]? = some (.cells #[.string s.pr, .int .i64 s.cols, .int .i64 s.rows, .string s.la, .string s.lb, .string s.lc, .slice ua s.un uc, .slice ha s.kh.length hc, .bool s.kp, .bool s.nav, .slice pa s.pn pc, .int .i64 s.at9, .string s.dr, .bool s.st, .slice qa s.qn qc, .slice la s.ln lc, .slice da s.dn dc] 63 (0, 0))) := hide (by rw [hV]; exact new_block w _)
  have HV := hide hV
  clear hV
  unfold sesV
  go_enter Tryz.func44, Tryz.ntmps44
  go_upto_region 0 with fail
  go_cut [0, 1, 2, 3, 4] (fun _ p a b c wq => p = .pointer (some ⟨w.heap.size, 0, none⟩) ∧ a = .slice none 0 0 ∧ b = .int .i64 0 ∧ c = .int .i64 0 ∧ wq = V)
  case first =>
    go_wp2
    go_meet
    exact ⟨rfl, rfl, rfl, rfl, (unhide HV).symm⟩
  case rest =>
  obtain ⟨rfl, rfl, rfl, rfl, hwc⟩ := hcut
  obtain rfl : V = wc := hwc.symm
  clear HV
  go_wp2_with (refine wpList_load_blk rfl 63 _ rfl (w.heap.size) rfl _ _ _ _ (unhide HB) Tryz.underlying63 rfl infoSesV ?_)
  refine ((unhide hcS) V E0).mono ?_
  rintro e w1 ⟨rfl, F1⟩
  have E1 := E0.trans F1
  replace HB := hide (F1.kept (unhide HB))
  go_wp2
  exact bodyPost_ret (v := .tuple #[.slice none 0 0, .int .i64 0, .int .i64 0]) (by simp [results, Tryz.results44, go_sem]) rfl ⟨rfl, E1⟩
set_option maxRecDepth 10000 in
set_option maxHeartbeats 4000000 in
theorem implView_st (s : SS) (u h p q l d : Value) (w : World) (hA : SesAt w s u h p q l d) (hz : s.Sz) (hT : Tabs3 w) (hok : SesP s) (hst : s.st = true) :
    Calls Tryz.prog 44 #[sesV s u h p q l d] w fun e w' => ∃ v, e = .returned (.tuple #[v, .int .i64 (s.ln : Int), .int .i64 0]) ∧ Own1 w' w.heap.size 9 v (s.ln + 1) (fun i => .string (if i < s.ln then s.lt i else noX)) ∧ Ext w w' := by
  obtain ⟨ua, uc, ha, hc, pa, pc, qa, qc, la, lc, da, dc, rfl, rfl, rfl, rfl, rfl, rfl⟩ := hA.forms
  have hcS := hide (fun W (hW : Ext w W) => implSessionOk_any s _ _ _ _ _ _ W (hA.ext hW) hz (hT.ext hW) true (by simp [hok]))
  obtain ⟨ic, hic, hc0, hc1, hc2⟩ := info_parts infoStrs
  have HSL := hide (fun W (hW : Ext w W) => Src.strs (hA.lo.ext hW))
  have hln := hz.ln
  have HLS : Hid (strL s.lt s.ln ++ [.string noX] = strL (fun i => if i < s.ln then s.lt i else noX) (s.ln + 1)) := hide (by
    rw [strL_succ, if_neg (Nat.lt_irrefl _)]
    congr 1
    exact strL_congr (fun j hj => by rw [if_pos hj]))
  have HST := hide hst
  clear hA hz hT hok hst
  obtain ⟨V, hV⟩ : ∃ V, V = w.alloc (.cells #[.string s.pr, .int .i64 s.cols, .int .i64 s.rows, .string s.la, .string s.lb, .string s.lc, .slice ua s.un uc, .slice ha s.kh.length hc, .bool s.kp, .bool s.nav, .slice pa s.pn pc, .int .i64 s.at9, .string s.dr, .bool s.st, .slice qa s.qn qc, .slice la s.ln lc, .slice da s.dn dc] 63) := ⟨_, rfl⟩
  have E0 : Ext w V := by rw [hV]; exact (Ext.refl w).alloc _
  have HB : Hid (V.heap[w.heap.size]? = some (.cells #[.string s.pr, .int .i64 s.cols, .int .i64 s.rows, .string s.la, .string s.lb, .string s.lc, .slice ua s.un uc, .slice ha s.kh.length hc, .bool s.kp, .bool s.nav, .slice pa s.pn pc, .int .i64 s.at9, .string s.dr, .bool s.st, .slice qa s.qn qc, .slice la s.ln lc, .slice da s.dn dc] 63 (0, 0))) := hide (by rw [hV]; exact new_block w _)
  have HV := hide hV
  clear hV
  unfold sesV
  go_enter Tryz.func44, Tryz.ntmps44
  go_upto_region 0 with fail
  go_cut [0, 1, 2, 3, 4] (fun _ p a b c wq => p = .pointer (some ⟨w.heap.size, 0, none⟩) ∧ a = .slice none 0 0 ∧ b = .int .i64 0 ∧ c = .int .i64 0 ∧ wq = V)
  case first =>
    go_wp2
    go_meet
    exact ⟨rfl, rfl, rfl, rfl, (unhide HV).symm⟩
  case rest =>
  obtain ⟨rfl, rfl, rfl, rfl, hwc⟩ := hcut
  obtain rfl : V = wc := hwc.symm
  clear HV
  go_wp2_with (refine wpList_load_blk rfl 63 _ rfl (w.heap.size) rfl _ _ _ _ (unhide HB) Tryz.underlying63 rfl infoSesV ?_)
  refine ((unhide hcS) V E0).mono ?_
  rintro e w1 ⟨rfl, F1⟩
  have E1 := E0.trans F1
  replace HB := hide (F1.kept (unhide HB))
  have hB1 := lt_of_block (unhide HB)
  have x15 : w1.cell? ⟨w.heap.size, 15, none⟩ = some (.slice la s.ln lc) := cells_of (unhide HB) 15 _ rfl
  rw [unhide HST] at HB
  go_wp2_with (at_builtin; refine StopP.intro ?_)
  show wpList _ _ _ _ _ _
  refine wpList_app rfl _ _ 24 rfl w1.heap.size 9 ic (.string { data := #[] }) 1 16 Tryz.underlying24 hic hc0 hc1 hc2 rfl (by decide) _ 0 [] rfl (owns_nil _ _ _ _) _ s.ln (strL s.lt s.ln) rfl ((unhide HSL) _ E1) (by unfold maxLen; omega) (by omega) (Nat.le_refl _) ?_
  intro v5 w5 o5 G5 _
  have E5 := E1.grown G5 (fun q hq => by cases hq)
  rw [Nat.zero_add, List.nil_append] at o5
  obtain ⟨a5, c5, e5⟩ := owns_slice o5
  subst e5
  have HO5 := hide o5
  have hs5 := G5.size
  have HB5 := hide (Fr.kept (S := fun _ => False) (Fr.grown (Fr.refl _ w1) G5 (fun q hq => by cases hq)) (unhide HB) (fun h => h))
  have x13 : w5.cell? ⟨w.heap.size, 13, none⟩ = some (.bool true) := cells_of (unhide HB5) 13 _ rfl
  have x15' : w5.cell? ⟨w.heap.size, 15, none⟩ = some (.slice la s.ln lc) := cells_of (unhide HB5) 15 _ rfl
  clear o5 G5 x15
  go_upto_region 5 with fail
  clear x13
  have x15n : ∀ o, (w5.alloc o).cell? ⟨w.heap.size, 15, none⟩ = some (.slice la s.ln lc) := fun o => ((Ext.refl w5).alloc o).cell x15'
  go_region_law (first
    | (refine step_app (by rfl) _ _ 24 (by rfl) w1.heap.size 9 ic (.string { data := #[] }) 1 16 Tryz.underlying24 hic hc0 hc1 hc2 rfl (by decide) _ s.ln (strL s.lt s.ln) (by rfl) (by first | exact (unhide HO5).alloc _ | exact ((unhide HO5).alloc _).drew | exact (unhide HO5).drew.alloc _ | exact ((unhide HO5).drew.alloc _).drew) _ 1 [.string noX] (by rfl) (by first | exact Src.made _ _ _ rfl (by simp [Value.oneCell']) | exact (Src.made _ _ _ rfl (by simp [Value.oneCell'])).ext ((Ext.refl _).drew)) (by unfold maxLen; omega) (by omega) (by simp; omega) ?_; intro v6 w6 o6 G6 _; have X6 := Fr.grown (S := fun q => (Value.slice a5 s.ln c5).ownBlock = some q) (Fr.of_ext (by first | exact ((Ext.refl w5).alloc _).drew | exact (Ext.refl w5).drew.alloc _ | exact (Ext.refl w5).alloc _)) G6 (fun q hq => hq); have HO6 := hide o6; have E6 := hide (X6.ext E5 (fun q hq => by have := ((unhide HO5).lt q hq).1; omega)); have x15'' : w6.cell? ⟨w.heap.size, 15, none⟩ = some (.slice la s.ln lc) := cells_of (X6.kept (unhide HB5) (fun hq => by have := ((unhide HO5).lt _ hq).1; omega)) 15 _ rfl; clear X6 o6 G6))
  all_goals
    rw [unhide HLS] at HO6
    go_wp2
    exact bodyPost_ret (v := .tuple #[_, .int .i64 (s.ln : Int), .int .i64 0]) (by simp [results, Tryz.results44, go_sem]) rfl ⟨_, rfl, (own_strL (unhide HO6)).mono (by omega), unhide E6⟩
end Go.Proofs.YteabhioifedgeaaGreatDoor

namespace Go.Proofs.YteabhioifedgeaaGreatDoor
open Go.RowKit

/-- The length of a slice. -/
def vLen : Value → Nat
  | .slice _ n _ => n
  | _ => 0
theorem owns_take {w : World} {base : Nat} {T : TypeId} {g c N : Nat} {xs : List Value} (h : w.ownsRow base T 1 (.slice (some ⟨g, 0, none⟩) N c) N xs) (m : Nat) (hm : m ≤ N) : w.ownsRow base T 1 (.slice (some ⟨g, 0, none⟩) m c) m (xs.take m) := by
  obtain ⟨h1, h2⟩ := h
  refine ⟨by rw [List.length_take]; omega, ?_⟩
  rcases h2 with ⟨e, _⟩ | ⟨g', cap, cur, e, h3, h4, h5, h6, h7, h8⟩
  · cases e
  · simp only [Value.slice.injEq, Option.some.injEq, Addr.mk.injEq] at e
    obtain ⟨⟨rfl, _⟩, _, rfl⟩ := e
    refine .inr ⟨g, c, cur, rfl, h3, h4, by omega, h6, h7, ?_⟩
    rw [← h8, List.take_take]
    congr 1
    omega
theorem strL_take (tx : Nat → ByteArray) (N m : Nat) (h : m ≤ N) : (strL tx N).take m = strL tx m := by
  unfold strL
  rw [← List.map_take, List.take_range, Nat.min_eq_left h]
theorem strL_two (a b : Nat → ByteArray) (n : Nat) : ∀ m, strL a n ++ strL b m = strL (fun i => if i < n then a i else b (i - n)) (n + m)
  | 0 => by
    rw [Nat.add_zero, show strL b 0 = [] from rfl, List.append_nil]
    exact strL_congr (fun j hj => by rw [if_pos hj])
  | m + 1 => by
    rw [strL_succ, ← List.append_assoc, strL_two a b n m, ← Nat.add_assoc, strL_succ, if_neg (by omega), Nat.add_sub_cancel_left]
set_option maxRecDepth 10000 in
set_option maxHeartbeats 4000000 in
theorem implView_go (s : SS) (u h p q l d : Value) (w : World) (hA : SesAt w s u h p q l d) (hz : s.Sz) (hT : Tabs3 w) (hok : SesP s) (hst : s.st = false) :
    Calls Tryz.prog 44 #[sesV s u h p q l d] w fun e w' => ∃ v, e = .returned (.tuple #[v, .int .i64 ((s.ln : Int) + (s.blk.R : Int)), .int .i64 s.blk.C]) ∧ Own1 w' w.heap.size 9 v (s.ln + (lastV (fun i => trimS (s.blk.tx i)) s.blk.R s.blk.n + 1)) (fun i => .string (if i < s.ln then s.lt i else trimS (s.blk.tx (i - s.ln)))) ∧ Ext w w' := by
  obtain ⟨ua, uc, ha, hc, pa, pc, qa, qc, la, lc, da, dc, rfl, rfl, rfl, rfl, rfl, rfl⟩ := hA.forms
  have hcS := hide (fun W (hW : Ext w W) => implSessionOk_any s _ _ _ _ _ _ W (hA.ext hW) hz (hT.ext hW) true (by simp [hok]))
  have hcB := hide (fun W (hW : Ext w W) => blockOf_any s _ _ _ _ _ _ W (hA.ext hW) hz hok.2.1 (hT.ext hW).1)
  obtain ⟨hR, hN⟩ := s.blk_lt hok.2.1
  have hTX := hide (fun i => s.blk_size hz i)
  obtain ⟨ic, hic, hc0, hc1, hc2⟩ := info_parts infoStrs
  have HSL := hide (fun W (hW : Ext w W) => Src.strs (hA.lo.ext hW))
  have hln := hz.ln
  have HST := hide hst
  clear hA hz hT hok hst
  generalize s.blk.n = n at *
  generalize s.blk.R = R at *
  generalize s.blk.C = C at *
  generalize s.blk.tx = tx at *
  obtain ⟨V, hV⟩ : ∃ V, V = w.alloc (.cells #[.string s.pr, .int .i64 s.cols, .int .i64 s.rows, .string s.la, .string s.lb, .string s.lc, .slice ua s.un uc, .slice ha s.kh.length hc, .bool s.kp, .bool s.nav, .slice pa s.pn pc, .int .i64 s.at9, .string s.dr, .bool s.st, .slice qa s.qn qc, .slice la s.ln lc, .slice da s.dn dc] 63) := ⟨_, rfl⟩
  have E0 : Ext w V := by rw [hV]; exact (Ext.refl w).alloc _
  have HB : Hid (V.heap[w.heap.size]? = some (.cells #[.string s.pr, .int .i64 s.cols, .int .i64 s.rows, .string s.la, .string s.lb, .string s.lc, .slice ua s.un uc, .slice ha s.kh.length hc, .bool s.kp, .bool s.nav, .slice pa s.pn pc, .int .i64 s.at9, .string s.dr, .bool s.st, .slice qa s.qn qc, .slice la s.ln lc, .slice da s.dn dc] 63 (0, 0))) := hide (by rw [hV]; exact new_block w _)
  have HV := hide hV
  clear hV
  unfold sesV
  go_enter Tryz.func44, Tryz.ntmps44
  go_upto_region 0 with fail
  go_cut [0, 1, 2, 3, 4] (fun _ p a b c wq => p = .pointer (some ⟨w.heap.size, 0, none⟩) ∧ a = .slice none 0 0 ∧ b = .int .i64 0 ∧ c = .int .i64 0 ∧ wq = V)
  case first =>
    go_wp2
    go_meet
    exact ⟨rfl, rfl, rfl, rfl, (unhide HV).symm⟩
  case rest =>
  obtain ⟨rfl, rfl, rfl, rfl, hwc⟩ := hcut
  obtain rfl : V = wc := hwc.symm
  clear HV
  go_wp2_with (refine wpList_load_blk rfl 63 _ rfl (w.heap.size) rfl _ _ _ _ (unhide HB) Tryz.underlying63 rfl infoSesV ?_)
  refine ((unhide hcS) V E0).mono ?_
  rintro e w1 ⟨rfl, F1⟩
  have E1 := E0.trans F1
  replace HB := hide (F1.kept (unhide HB))
  have hB1 := lt_of_block (unhide HB)
  have x15 : w1.cell? ⟨w.heap.size, 15, none⟩ = some (.slice la s.ln lc) := cells_of (unhide HB) 15 _ rfl
  go_wp2_with (at_builtin; refine StopP.intro ?_)
  show wpList _ _ _ _ _ _
  refine wpList_app rfl _ _ 24 rfl w1.heap.size 9 ic (.string { data := #[] }) 1 16 Tryz.underlying24 hic hc0 hc1 hc2 rfl (by decide) _ 0 [] rfl (owns_nil _ _ _ _) _ s.ln (strL s.lt s.ln) rfl ((unhide HSL) _ E1) (by unfold maxLen; omega) (by omega) (Nat.le_refl _) ?_
  intro v5 w5 o5 G5 _
  have E5 := E1.grown G5 (fun q hq => by cases hq)
  rw [Nat.zero_add, List.nil_append] at o5
  obtain ⟨a5, c5, e5⟩ := owns_slice o5
  subst e5
  have HO5 := hide o5
  have hs5 := G5.size
  have HB5 := hide (Fr.kept (S := fun _ => False) (Fr.grown (Fr.refl _ w1) G5 (fun q hq => by cases hq)) (unhide HB) (fun h => h))
  have x13 : w5.cell? ⟨w.heap.size, 13, none⟩ = some (.bool false) := by have h9 : w5.cell? ⟨w.heap.size, 13, none⟩ = some (.bool s.st) := cells_of (unhide HB5) 13 _ rfl; rw [unhide HST] at h9; exact h9
  have x15' : w5.cell? ⟨w.heap.size, 15, none⟩ = some (.slice la s.ln lc) := cells_of (unhide HB5) 15 _ rfl
  clear o5 G5 x15
  go_wp2_with (refine wpList_load_blk rfl 63 _ rfl (w.heap.size) rfl _ _ _ _ (unhide HB5) Tryz.underlying63 rfl infoSesV ?_)
  clear x13 x15'
  refine ((unhide hcB) w5 E5).mono ?_
  rintro e w6 ⟨v6, rfl, o6, F6⟩
  obtain ⟨a6, c6, rfl⟩ := o6.slice
  have HO6 := hide o6.reads
  have hs6 := F6.size
  have x15n : ∀ o, (w6.alloc o).cell? ⟨w.heap.size, 15, none⟩ = some (.slice la s.ln lc) := fun o => ((Ext.refl w6).alloc o).cell (cells_of (F6.kept (unhide HB5)) 15 _ rfl)
  obtain ⟨W7, hW7⟩ : ∃ W7, W7 = w6.alloc (.cells #[.slice a6 n c6, .int .i64 (R : Int), .int .i64 C] 46) := ⟨_, rfl⟩
  have F7 : Ext w6 W7 := by rw [hW7]; exact (Ext.refl w6).alloc _
  have HB7 : Hid (W7.heap[w6.heap.size]? = some (.cells #[.slice a6 n c6, .int .i64 (R : Int), .int .i64 C] 46 (0, 0))) := hide (by rw [hW7]; exact new_block w6 _)
  have hcA := hide (asShown_any (.slice a6 n c6) n tx W7 ((unhide HO6).ext F7) (by omega) (fun j _ => by have := (unhide hTX) j; omega))
  have HW7 := hide hW7
  clear hW7 o6
  have hwr : IntKind.i64.wrap ((s.ln : Int) + (R : Int)) = (s.ln : Int) + (R : Int) := by rw [IntKind.wrap_i64]; omega
  go_wp2_with fail
  rw [← unhide HW7]
  clear x15n HW7
  refine (unhide hcA).mono ?_
  rintro e w8 ⟨v8, rfl, o8, F8⟩
  obtain ⟨a8, c8, rfl⟩ := o8.slice
  have X8 := (F6.trans F7).trans F8
  have HO8 := hide (X8.owns (unhide HO5))
  have HSR := hide (Src.strs o8.reads)
  replace HB7 := hide (F8.kept (unhide HB7))
  have hs8 := X8.size
  clear o8
  go_wp2_with (at_builtin; refine StopP.intro ?_)
  show wpList _ _ _ _ _ _
  refine wpList_app rfl _ _ 24 rfl w1.heap.size 9 ic (.string { data := #[] }) 1 16 Tryz.underlying24 hic hc0 hc1 hc2 rfl (by decide) _ s.ln (strL s.lt s.ln) rfl (unhide HO8) _ n (strL (fun i => trimS (tx i)) n) rfl (unhide HSR) (by unfold maxLen; omega) (by omega) (by omega) ?_
  intro v9 w9 o9 G9 _
  have X9 := Fr.grown (S := fun q => (Value.slice a5 s.ln c5).ownBlock = some q) (Fr.refl _ w8) G9 (fun q hq => hq)
  have E9 := X9.ext (E5.trans X8) (fun q hq => by have := ((unhide HO5).lt q hq).1; omega)
  replace HB7 := hide (X9.kept (unhide HB7) (fun hq => by have := ((unhide HO5).lt _ hq).2; omega))
  rw [strL_two] at o9
  obtain ⟨g, c9, rfl, hc9⟩ : ∃ g c, v9 = .slice (some ⟨g, 0, none⟩) (s.ln + n) c ∧ s.ln + n ≤ c := by
    rcases o9.2 with ⟨_, h0⟩ | ⟨g, cap, cur, hv, _, _, hn, _⟩
    · omega
    · exact ⟨g, cap, hv, hn⟩
  have hat : Hid (∀ j, j < s.ln + n → w9.cell? ⟨g, j, none⟩ = some (.string (if j < s.ln then s.lt j else trimS (tx (j - s.ln))))) := hide (fun j hj => by rw [o9.cellAt j (by omega), strL_at _ _ _ hj])
  have HO9 := hide o9
  have b2 : w9.cell? ⟨w6.heap.size, 2, none⟩ = some (.int .i64 C) := cells_of (unhide HB7) 2 _ rfl
  clear o9 G9 X9 HO8 HSR hcB hcS
  go_wp2
  go_loopw [5] (fun v wr => ∃ j : Nat, s.ln + R ≤ j ∧ j < s.ln + n ∧ v = .slice (some ⟨g, 0, none⟩) (j + 1) c9 ∧ Hid (∀ i, j + 1 ≤ s.ln + i → i < n → trimS (tx i) = noX) ∧ wr = w9) (fun v _ => vLen v)
  case atStart => exact ⟨s.ln + n - 1, by omega, by omega, by rw [show s.ln + n - 1 + 1 = s.ln + n by omega], hide (fun i h1 h2 => by omega), rfl⟩
  case round =>
    obtain ⟨j, hj1, hj2, rfl, HBL, rfl⟩ := hrel
    have hw1 : IntKind.i64.wrap (((j + 1 : Nat) : Int) - 1) = (j : Int) := by rw [IntKind.wrap_i64]; omega
    have hfinal : Hid ((j = s.ln + R ∨ trimS (tx (j - s.ln)) ≠ noX) → lastV (fun i => trimS (tx i)) R n = j - s.ln) := hide (fun hor => by
      rw [lastV_blank (fun i => trimS (tx i)) R (j - s.ln + 1) n (by omega) (fun i h1 h2 => (unhide HBL) i (by omega) h2)]
      exact lastV_top _ R (j - s.ln) (by omega) (hor.elim (fun e => .inl (by omega)) (fun e => .inr e)))
    have hend : Hid (∀ m, lastV (fun i => trimS (tx i)) R n = j - s.ln → m = j + 1 → Own1 wr w.heap.size 9 (.slice (some ⟨g, 0, none⟩) m c9) (s.ln + (lastV (fun i => trimS (tx i)) R n + 1)) (fun i => .string (if i < s.ln then s.lt i else trimS (tx (i - s.ln))))) := hide (fun m h1 h2 => by
      rw [h1, h2, show s.ln + (j - s.ln + 1) = j + 1 by omega]
      have h3 := owns_take (unhide HO9) (j + 1) (by omega)
      rw [strL_take _ _ _ (by omega)] at h3
      exact (own_strL h3).mono (by omega))
    by_cases hgt : (s.ln : Int) + (R : Int) < (j : Int)
    · have g1 := (unhide hat) j hj2
      rw [if_neg (by omega)] at g1
      by_cases hbl : trimS (tx (j - s.ln)) = noX
      · rw [hbl] at g1
        have hcap : ((j : Nat) : Int) ≤ (c9 : Int) := by omega
        obtain ⟨i, rfl⟩ : ∃ i, j = i + 1 := ⟨j - 1, by omega⟩
        have HBL2 : Hid (∀ k, i + 1 ≤ s.ln + k → k < n → trimS (tx k) = noX) := hide (fun k h1 h2 => by
          by_cases e : i + 1 = s.ln + k
          · rw [show k = i + 1 - s.ln by omega]; exact hbl
          · exact (unhide HBL) k (by omega) h2)
        clear hbl hfinal hend
        go_wp2
        go_roundw
        case rel => exact ⟨i, by omega, by omega, rfl, HBL2, by first | rfl | trivial⟩
        case measure => simp [vLen]
      · have hlast := hide ((unhide hfinal) (.inr hbl))
        have hne : (trimS (tx (j - s.ln))).toList.isEmpty = false := by
          rw [toList_data]
          cases e : (trimS (tx (j - s.ln))).data.toList with
          | nil => exact absurd (WideShapes.bytes_inj e) hbl
          | cons _ _ => rfl
        clear hbl hfinal
        go_wp2
        go_quiet (fail)
        go_wp2
        exact bodyPost_ret (v := .tuple #[.slice (some ⟨g, 0, none⟩) (j + 1) c9, .int .i64 ((s.ln : Int) + (R : Int)), .int .i64 C]) (by simp [results, Tryz.results44, go_sem]) rfl ⟨_, rfl, ((unhide hend) (j + 1) (unhide hlast) rfl).ext ((Ext.refl wr).drewN nq), E9.drewN nq⟩
    · have hlast := hide ((unhide hfinal) (.inl (by omega)))
      clear hfinal
      go_wp2
      go_quiet (fail)
      go_wp2
      exact bodyPost_ret (v := .tuple #[.slice (some ⟨g, 0, none⟩) (j + 1) c9, .int .i64 ((s.ln : Int) + (R : Int)), .int .i64 C]) (by simp [results, Tryz.results44, go_sem]) rfl ⟨_, rfl, ((unhide hend) (j + 1) (unhide hlast) rfl).ext ((Ext.refl wr).drewN nq), E9.drewN nq⟩
end Go.Proofs.YteabhioifedgeaaGreatDoor
