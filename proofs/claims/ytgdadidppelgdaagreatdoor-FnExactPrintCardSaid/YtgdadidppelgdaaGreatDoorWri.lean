import Derived.Test.YtgdadidppelgdaaGreatDoorViewM
import Derived.Test.YtgdadidppelgdaaGreatDoorItemOk
import Derived.Test.YtgdadidppelgdaaGreatDoorLayI2
import Derived.Test.YtgdadidppelgdaaGreatDoorLayS2
import Derived.Test.YtgdadidppelgdaaGreatDoorSesOkI
import Derived.Test.YtgdadidppelgdaaGreatDoorLayI
import Derived.Test.YtgdadidppelgdaaGreatDoorShelfW
import Derived.Test.YtgdadidppelgdaaGreatDoorRows
import Derived.Laws.EntriesVeiled
import Derived.Deep.AppendLies
import Derived.Lib.OwnKind
namespace Go.Proofs.YtgdadidppelgdaaGreatDoor
open Go.RowKit

/-- The block of a session that is valid: its rows, its cursor. -/
structure BlkD where
  n : Nat
  tx : Nat → ByteArray
  R : Nat
  C : Int
/-- What Layout gives for a session. -/
def SS.cs (s : SS) : List (List Int × Int) := cutC (baL s.pr) ++ cutC (baL s.la) ++ cutC (baL s.lb)
def SS.p0 (s : SS) : Nat := (cutC (baL s.pr)).length + (cutC (baL s.la)).length
def SS.blk (s : SS) : BlkD := { n := layCnt s.cs s.cols.toNat s.p0 s.rows.toNat, tx := layT s.cs s.cols.toNat s.p0 s.rows.toNat, R := layRow s.cs s.cols.toNat s.p0 - layFr s.cs s.cols.toNat s.p0 s.rows.toNat, C := layCol s.cs s.cols.toNat s.p0 }
theorem SS.blk_lt (s : SS) (h : sizeB s.cols s.rows = true) : s.blk.R < s.blk.n ∧ s.blk.n ≤ 100 := by
  obtain ⟨cn, rn, e1, e2, _, _, h1, h2⟩ := sizeB_open h
  have e3 : s.rows.toNat = rn := by omega
  have := lay_row_lt (cs := s.cs) (cols := s.cols.toNat) (p := s.p0) (rows := s.rows.toNat) (by omega)
  refine ⟨this.1, ?_⟩
  show layCnt _ _ _ _ ≤ 100
  unfold layCnt
  omega
theorem SS.blk_size_big (s : SS) (hpr : s.pr.size ≤ 1048576) (hla : s.la.size ≤ 1048576) (hlb : s.lb.size ≤ 1048576) (i : Nat) : (s.blk.tx i).size ≤ 75497472 := by
  have h := (((cuts_one (baL s.pr)).app (cuts_one (baL s.la))).app (cuts_one (baL s.lb))).part
  have k1 := hpr
  have k2 := hla
  have k3 := hlb
  show (layT s.cs s.cols.toNat s.p0 s.rows.toNat i).size ≤ _
  unfold layT layC
  rw [toBA_size]
  refine Nat.le_trans (txT_len _ _) ?_
  have := (h (at0 (layS s.cs s.cols.toNat s.p0 ++ [(s.cs.length : Int)]) (layFr s.cs s.cols.toNat s.p0 s.rows.toNat + i)).toNat (at0 (layS s.cs s.cols.toNat s.p0 ++ [(s.cs.length : Int)]) (layFr s.cs s.cols.toNat s.p0 s.rows.toNat + i + 1)).toNat).1
  rw [baL_len, baL_len, baL_len] at this
  unfold SS.cs at this ⊢
  omega
theorem SS.blk_size (s : SS) (hz : s.Sz) (i : Nat) : (s.blk.tx i).size ≤ 75497472 := s.blk_size_big hz.pr hz.la hz.lb i
set_option maxRecDepth 10000 in
set_option maxHeartbeats 2000000 in
theorem blockOf_big (s : SS) (u h p q l d : Value) (w : World) (hA : SesAt w s u h p q l d) (hpr : s.pr.size ≤ 1048576) (hla : s.la.size ≤ 1048576) (hlb : s.lb.size ≤ 1048576) (hs : sizeB s.cols s.rows = true) (hT : Laid w) :
    Calls Tryz.prog 72 #[sesV s u h p q l d] w fun e w' => ∃ v, e = .returned (.agg #[v, .int .i64 (s.blk.R : Int), .int .i64 s.blk.C]) ∧ Own1 w' w.heap.size 9 v s.blk.n (fun i => .string (s.blk.tx i)) ∧ Ext w w' := by
  obtain ⟨ua, uc, ha, hc, pa, pc, qa, qc, la, lc, da, dc, rfl, rfl, rfl, rfl, rfl, rfl⟩ := hA.forms
  obtain ⟨R, hR⟩ : ∃ R : Int, R = (s.blk.R : Int) := ⟨_, rfl⟩
  obtain ⟨C, hC⟩ : ∃ C : Int, C = s.blk.C := ⟨_, rfl⟩
  have hcon : Hid (∀ W, Ext w W → Calls Tryz.prog 103 #[.string s.pr, .agg #[.string s.la, .string s.lb, .string s.lc, .slice ua s.un uc], .int .i64 s.cols, .int .i64 s.rows] W fun e w' => ∃ va vc, e = .returned (.agg #[.slice va s.blk.n vc, .int .i64 R, .int .i64 C]) ∧ Hid (Own1 w' W.heap.size 9 (.slice va s.blk.n vc) s.blk.n (fun i => .string (s.blk.tx i))) ∧ Ext W w') := by
    refine hide (fun W hW => ?_)
    rw [hR, hC]
    obtain ⟨cn, rn, e1, e2, _, _, h1, _⟩ := sizeB_open hs
    have e3 : s.cols.toNat = cn := by omega
    have e4 : s.rows.toNat = rn := by omega
    have hk := implLayout_yes (baL s.pr) (baL s.la) (baL s.lb) s.lc ua s.un uc cn rn W (by rw [← e1, ← e2]; exact hs) (baL_bytes _) (baL_bytes _) (baL_bytes _) (by rw [baL_len]; exact hpr) (by rw [baL_len]; exact hla) (by rw [baL_len]; exact hlb) (hT.below hW.below)
    rw [toBA_baL, toBA_baL, toBA_baL, ← e1, ← e2] at hk
    refine hk.mono ?_
    rintro e w' ⟨v, rfl, o, F⟩
    obtain ⟨va, vc, rfl⟩ := o.slice
    have hlt := (lay_row_lt (cs := s.cs) (cols := s.cols.toNat) (p := s.p0) (rows := s.rows.toNat) (by omega)).2
    unfold SS.blk
    dsimp only
    unfold SS.cs SS.p0 at hlt ⊢
    rw [e3, e4] at hlt ⊢
    refine ⟨va, vc, ?_, hide o, F⟩
    rw [Int.ofNat_sub hlt]
  clear hA hpr hla hlb hs
  rw [← hR, ← hC]
  clear hR hC
  obtain ⟨n, hn⟩ : ∃ n, n = s.blk.n := ⟨_, rfl⟩
  obtain ⟨tx, htx⟩ : ∃ tx, tx = s.blk.tx := ⟨_, rfl⟩
  rw [← hn, ← htx] at hcon ⊢
  clear hn htx
  obtain ⟨V, hV⟩ : ∃ V, V = (w.alloc (.cells #[.string s.pr, .int .i64 s.cols, .int .i64 s.rows, .string s.la, .string s.lb, .string s.lc, .slice ua s.un uc, .slice ha s.kh.length hc, .bool s.kp, .bool s.nav, .slice pa s.pn pc, .int .i64 s.at9, .string s.dr, .bool s.st, .slice qa s.qn qc, .slice la s.ln lc, .slice da s.dn dc] 37)).alloc (.cells #[.slice none 0 0, .int .i64 0, .int .i64 0] 61) := ⟨_, rfl⟩
  have E0 : Ext w V := by rw [hV]; exact ((Ext.refl w).alloc _).alloc _
  have sz0 : w.heap.size + 1 + 1 = V.heap.size := by rw [hV]; simp
  have HB1 : Hid (V.heap[w.heap.size + 1]? = some (.cells #[.slice none 0 0, .int .i64 0, .int .i64 0] 61 (0, 0))) := hide (by rw [hV]; have h := new_block (w.alloc (.cells #[.string s.pr, .int .i64 s.cols, .int .i64 s.rows, .string s.la, .string s.lb, .string s.lc, .slice ua s.un uc, .slice ha s.kh.length hc, .bool s.kp, .bool s.nav, .slice pa s.pn pc, .int .i64 s.at9, .string s.dr, .bool s.st, .slice qa s.qn qc, .slice la s.ln lc, .slice da s.dn dc] 37)) (.cells #[.slice none 0 0, .int .i64 0, .int .i64 0] 61); rw [show (w.alloc (.cells #[.string s.pr, .int .i64 s.cols, .int .i64 s.rows, .string s.la, .string s.lb, .string s.lc, .slice ua s.un uc, .slice ha s.kh.length hc, .bool s.kp, .bool s.nav, .slice pa s.pn pc, .int .i64 s.at9, .string s.dr, .bool s.st, .slice qa s.qn qc, .slice la s.ln lc, .slice da s.dn dc] 37)).heap.size = w.heap.size + 1 by simp] at h; exact h)
  have HV := hide hV
  clear hV
  unfold sesV
  go_enter Tryz.func72, Tryz.ntmps72
  go_wp2_with fail
  rw [← unhide HV]
  clear HV
  refine ((unhide hcon) V E0).mono ?_
  rintro e w1 ⟨va, vc, rfl, O1, F1⟩
  replace HB1 := hide (F1.kept (unhide HB1))
  have b0 : w1.cell? ⟨w.heap.size + 1, 0, none⟩ = some (.slice none 0 0) := cells_of (unhide HB1) 0 _ rfl
  have b1 : w1.cell? ⟨w.heap.size + 1, 1, none⟩ = some (.int .i64 0) := cells_of (unhide HB1) 1 _ rfl
  have b2 : w1.cell? ⟨w.heap.size + 1, 2, none⟩ = some (.int .i64 0) := cells_of (unhide HB1) 2 _ rfl
  have f1 : ∀ i, w1.frozen? ⟨w.heap.size + 1, i, none⟩ = false := fun i => Lib.frozen_of_heap (unhide HB1) i
  go_wp2
  refine bodyPost_ret (v := .agg #[.slice va n vc, .int .i64 R, .int .i64 C]) (by simp [results, Tryz.results72, go_sem, b0, b1, b2]) rfl ⟨_, rfl, ?_⟩
  refine (fun (U : World) (hU : Fr (fun q => q = w.heap.size + 1) w1 U) => ?_ : ∀ U, Fr (fun q => q = w.heap.size + 1) w1 U → Own1 U w.heap.size 9 (.slice va n vc) n (fun i => .string (tx i)) ∧ Ext w U) _ ?_
  · refine ⟨((unhide O1).fr hU (fun g hg e9 => by have := ((unhide O1).lt g hg).1; omega)).mono (by omega), hU.ext (E0.trans F1) (fun q hq => by omega)⟩
  · exact Fr.setCell (S := fun q => q = w.heap.size + 1) (Fr.setCell (S := fun q => q = w.heap.size + 1) (Fr.setCell (S := fun q => q = w.heap.size + 1) (Fr.refl _ _) (a := ⟨w.heap.size + 1, 0, none⟩) rfl _) (a := ⟨w.heap.size + 1, 1, none⟩) rfl _) (a := ⟨w.heap.size + 1, 2, none⟩) rfl _
theorem blockOf_any (s : SS) (u h p q l d : Value) (w : World) (hA : SesAt w s u h p q l d) (hz : s.Sz) (hs : sizeB s.cols s.rows = true) (hT : Laid w) :
    Calls Tryz.prog 72 #[sesV s u h p q l d] w fun e w' => ∃ v, e = .returned (.agg #[v, .int .i64 (s.blk.R : Int), .int .i64 s.blk.C]) ∧ Own1 w' w.heap.size 9 v s.blk.n (fun i => .string (s.blk.tx i)) ∧ Ext w w' := blockOf_big s u h p q l d w hA hz.pr hz.la hz.lb hs hT
set_option maxRecDepth 10000 in
set_option maxHeartbeats 2000000 in
theorem l7Block_big (s : SS) (u h p q l d : Value) (w : World) (hA : SesAt w s u h p q l d) (hpr : s.pr.size ≤ 1048576) (hla : s.la.size ≤ 1048576) (hlb : s.lb.size ≤ 1048576) (hs : sizeB s.cols s.rows = true) :
    Calls Tryz.prog 29 #[sesV s u h p q l d] w fun e w' => ∃ v, e = .returned (.agg #[v, .int .i64 (s.blk.R : Int), .int .i64 s.blk.C]) ∧ Own1 w' w.heap.size 9 v s.blk.n (fun i => .string (s.blk.tx i)) ∧ Ext w w' := by
  obtain ⟨ua, uc, ha, hc, pa, pc, qa, qc, la, lc, da, dc, rfl, rfl, rfl, rfl, rfl, rfl⟩ := hA.forms
  obtain ⟨R, hR⟩ : ∃ R : Int, R = (s.blk.R : Int) := ⟨_, rfl⟩
  obtain ⟨C, hC⟩ : ∃ C : Int, C = s.blk.C := ⟨_, rfl⟩
  have hcon : Hid (∀ W, Ext w W → Calls Tryz.prog 62 #[.string s.pr, .agg #[.string s.la, .string s.lb, .string s.lc, .slice ua s.un uc], .int .i64 s.cols, .int .i64 s.rows] W fun e w' => ∃ va vc, e = .returned (.agg #[.slice va s.blk.n vc, .int .i64 R, .int .i64 C]) ∧ Hid (Own1 w' W.heap.size 9 (.slice va s.blk.n vc) s.blk.n (fun i => .string (s.blk.tx i))) ∧ Ext W w') := by
    refine hide (fun W hW => ?_)
    rw [hR, hC]
    obtain ⟨cn, rn, e1, e2, _, _, h1, _⟩ := sizeB_open hs
    have e3 : s.cols.toNat = cn := by omega
    have e4 : s.rows.toNat = rn := by omega
    have hk := specLayout_yes (baL s.pr) (baL s.la) (baL s.lb) s.lc ua s.un uc cn rn W (by rw [← e1, ← e2]; exact hs) (baL_bytes _) (baL_bytes _) (baL_bytes _) (by rw [baL_len]; exact hpr) (by rw [baL_len]; exact hla) (by rw [baL_len]; exact hlb)
    rw [toBA_baL, toBA_baL, toBA_baL, ← e1, ← e2] at hk
    refine hk.mono ?_
    rintro e w' ⟨v, rfl, o, F⟩
    obtain ⟨va, vc, rfl⟩ := o.slice
    have hlt := (lay_row_lt (cs := s.cs) (cols := s.cols.toNat) (p := s.p0) (rows := s.rows.toNat) (by omega)).2
    unfold SS.blk
    dsimp only
    unfold SS.cs SS.p0 at hlt ⊢
    rw [e3, e4] at hlt ⊢
    refine ⟨va, vc, ?_, hide o, F⟩
    rw [Int.ofNat_sub hlt]
  clear hA hpr hla hlb hs
  rw [← hR, ← hC]
  clear hR hC
  obtain ⟨n, hn⟩ : ∃ n, n = s.blk.n := ⟨_, rfl⟩
  obtain ⟨tx, htx⟩ : ∃ tx, tx = s.blk.tx := ⟨_, rfl⟩
  rw [← hn, ← htx] at hcon ⊢
  clear hn htx
  obtain ⟨V, hV⟩ : ∃ V, V = (w.alloc (.cells #[.string s.pr, .int .i64 s.cols, .int .i64 s.rows, .string s.la, .string s.lb, .string s.lc, .slice ua s.un uc, .slice ha s.kh.length hc, .bool s.kp, .bool s.nav, .slice pa s.pn pc, .int .i64 s.at9, .string s.dr, .bool s.st, .slice qa s.qn qc, .slice la s.ln lc, .slice da s.dn dc] 37)).alloc (.cells #[.slice none 0 0, .int .i64 0, .int .i64 0] 61) := ⟨_, rfl⟩
  have E0 : Ext w V := by rw [hV]; exact ((Ext.refl w).alloc _).alloc _
  have sz0 : w.heap.size + 1 + 1 = V.heap.size := by rw [hV]; simp
  have HB1 : Hid (V.heap[w.heap.size + 1]? = some (.cells #[.slice none 0 0, .int .i64 0, .int .i64 0] 61 (0, 0))) := hide (by rw [hV]; have h := new_block (w.alloc (.cells #[.string s.pr, .int .i64 s.cols, .int .i64 s.rows, .string s.la, .string s.lb, .string s.lc, .slice ua s.un uc, .slice ha s.kh.length hc, .bool s.kp, .bool s.nav, .slice pa s.pn pc, .int .i64 s.at9, .string s.dr, .bool s.st, .slice qa s.qn qc, .slice la s.ln lc, .slice da s.dn dc] 37)) (.cells #[.slice none 0 0, .int .i64 0, .int .i64 0] 61); rw [show (w.alloc (.cells #[.string s.pr, .int .i64 s.cols, .int .i64 s.rows, .string s.la, .string s.lb, .string s.lc, .slice ua s.un uc, .slice ha s.kh.length hc, .bool s.kp, .bool s.nav, .slice pa s.pn pc, .int .i64 s.at9, .string s.dr, .bool s.st, .slice qa s.qn qc, .slice la s.ln lc, .slice da s.dn dc] 37)).heap.size = w.heap.size + 1 by simp] at h; exact h)
  have HV := hide hV
  clear hV
  unfold sesV
  go_enter Tryz.func29, Tryz.ntmps29
  go_wp2_with fail
  rw [← unhide HV]
  clear HV
  refine ((unhide hcon) V E0).mono ?_
  rintro e w1 ⟨va, vc, rfl, O1, F1⟩
  replace HB1 := hide (F1.kept (unhide HB1))
  have b0 : w1.cell? ⟨w.heap.size + 1, 0, none⟩ = some (.slice none 0 0) := cells_of (unhide HB1) 0 _ rfl
  have b1 : w1.cell? ⟨w.heap.size + 1, 1, none⟩ = some (.int .i64 0) := cells_of (unhide HB1) 1 _ rfl
  have b2 : w1.cell? ⟨w.heap.size + 1, 2, none⟩ = some (.int .i64 0) := cells_of (unhide HB1) 2 _ rfl
  have f1 : ∀ i, w1.frozen? ⟨w.heap.size + 1, i, none⟩ = false := fun i => Lib.frozen_of_heap (unhide HB1) i
  go_wp2
  refine bodyPost_ret (v := .agg #[.slice va n vc, .int .i64 R, .int .i64 C]) (by simp [results, Tryz.results29, go_sem, b0, b1, b2]) rfl ⟨_, rfl, ?_⟩
  refine (fun (U : World) (hU : Fr (fun q => q = w.heap.size + 1) w1 U) => ?_ : ∀ U, Fr (fun q => q = w.heap.size + 1) w1 U → Own1 U w.heap.size 9 (.slice va n vc) n (fun i => .string (tx i)) ∧ Ext w U) _ ?_
  · refine ⟨((unhide O1).fr hU (fun g hg e9 => by have := ((unhide O1).lt g hg).1; omega)).mono (by omega), hU.ext (E0.trans F1) (fun q hq => by omega)⟩
  · exact Fr.setCell (S := fun q => q = w.heap.size + 1) (Fr.setCell (S := fun q => q = w.heap.size + 1) (Fr.setCell (S := fun q => q = w.heap.size + 1) (Fr.refl _ _) (a := ⟨w.heap.size + 1, 0, none⟩) rfl _) (a := ⟨w.heap.size + 1, 1, none⟩) rfl _) (a := ⟨w.heap.size + 1, 2, none⟩) rfl _
theorem l7Block_any (s : SS) (u h p q l d : Value) (w : World) (hA : SesAt w s u h p q l d) (hz : s.Sz) (hs : sizeB s.cols s.rows = true) :
    Calls Tryz.prog 29 #[sesV s u h p q l d] w fun e w' => ∃ v, e = .returned (.agg #[v, .int .i64 (s.blk.R : Int), .int .i64 s.blk.C]) ∧ Own1 w' w.heap.size 9 v s.blk.n (fun i => .string (s.blk.tx i)) ∧ Ext w w' := l7Block_big s u h p q l d w hA hz.pr hz.la hz.lb hs
end Go.Proofs.YtgdadidppelgdaaGreatDoor

namespace Go.Proofs.YtgdadidppelgdaaGreatDoor
open Go.RowKit

abbrev powName : String := (Rows.fnExactSizeRow.named.drop 3).headD ""
theorem gPow : Tryz.prog.globalNamed powName = some 4 := by kernel_rfl
/-- The table of the powers of ten lies in memory. -/
def PowT (w : World) : Prop := Lib.TabIs Tryz.prog w powName .u64 Lib.pow10Tab
theorem PowT.keep {w w' : World} (h : PowT w) (hk : w'.heap[4]? = w.heap[4]?) : PowT w' := by
  unfold PowT Lib.TabIs World.var? at h ⊢
  rw [gPow] at h ⊢
  simp only [Option.bind_some] at h ⊢
  rw [hk]
  exact h
theorem PowT.below {w : World} (h : PowT w) {B : Nat} (hB : 4 < B) : Lib.TabBelow Tryz.prog B w powName .u64 Lib.pow10Tab := fun _ hb => h.keep (hb.block _ hB)
theorem cell_same {w w' : World} {k o : Nat} (h : w'.heap[k]? = w.heap[k]?) : w'.cell? ⟨k, o, none⟩ = w.cell? ⟨k, o, none⟩ := by simp [World.cell?, h]
theorem frozen_same {w w' : World} {k o : Nat} (h : w'.heap[k]? = w.heap[k]?) : w'.frozen? ⟨k, o, none⟩ = w.frozen? ⟨k, o, none⟩ := by simp [World.frozen?, h]
/-- The closure 'sequence' over its list. -/
def seqF (ob : Nat) : Value := .func (.func 126) #[] #[.pointer (some ⟨ob, 0, none⟩)]
def anyF (qb : Nat) : Value := .func (.func 128) #[] #[.pointer (some ⟨qb, 0, none⟩)]
def wrV (ob qb nb : Nat) : Value := .agg #[.func (.func 129) #[] #[.pointer (some ⟨ob, 0, none⟩)], .func (.func 130) #[] #[.pointer (some ⟨nb, 0, none⟩)], .func (.func 131) #[] #[.pointer (some ⟨nb, 0, none⟩)], .func (.func 132) #[] #[.pointer (some ⟨qb, 0, none⟩)], .func (.func 133) #[] #[.pointer (some ⟨ob, 0, none⟩)]]
/-- The writers at work: what is written so far. -/
structure WrS (W : World) (B ob qb nb : Nat) (bs : List Int) : Prop where
  out : ∃ v, W.cell? ⟨ob, 0, none⟩ = some v ∧ W.ownsRow B 5 1 v bs.length (bs.map (Value.int .u8))
  hf : W.frozen? ⟨ob, 0, none⟩ = false
  q : W.cell? ⟨qb, 0, none⟩ = some (seqF ob)
  nn : W.cell? ⟨nb, 0, none⟩ = some (anyF qb)
  neq : qb ≠ ob
  nen : nb ≠ ob
  lo : 4 < ob
  ltb : ob < B
  ltq : qb < B
  ltn : nb < B
  le : B ≤ W.heap.size
  tab : PowT W
/-- What a writer may touch. -/
def WS (B ob : Nat) (g : Nat) : Prop := g = ob ∨ B ≤ g
/-- What a writer leaves: all blocks below B but its list's variable; and every block that is no row of bytes. -/
def WF (B ob : Nat) (w w' : World) : Prop := Fr (WS B ob) w w' ∧ Lib.OthersKept 5 (some ob) w w'
theorem WF.refl (B ob : Nat) (w : World) : WF B ob w w := ⟨Fr.refl _ _, Lib.OthersKept.refl _ _ _⟩
theorem WF.tr {B ob : Nat} {a b c : World} (h : WF B ob a b) (k : WF B ob b c) : WF B ob a c := ⟨h.1.tr k.1, h.2.trans k.2⟩
theorem WF.of_ext {B ob : Nat} {a b : World} (h : Ext a b) : WF B ob a b := ⟨Fr.of_ext h, fun k o hk _ _ => by rw [h.heap (Array.getElem?_eq_some_iff.1 hk).1]; exact hk⟩
theorem WF.grown {B ob : Nat} {a b c : World} {base n : Nat} {v : Value} {xs : List Value} (h : WF B ob a b) (hg : b.grownBy c v.ownBlock) (ho : b.ownsRow base 5 1 v n xs) (hb : B ≤ base) : WF B ob a c :=
  ⟨h.1.grown hg (fun k hk => .inr (Nat.le_trans hb (ho.lt k hk).1)), h.2.grown hg (Lib.ownsRow_kind ho)⟩
theorem WF.of_below {B ob : Nat} {a b : World} (h : Below B a b) (hk : Lib.OthersKept 5 none a b) : WF B ob a b :=
  ⟨⟨h.os, h.tape, h.output, h.size, fun i _ hn => h.block i (Nat.lt_of_not_le fun e => hn (.inr e))⟩, fun k o h1 _ h3 => hk k o h1 (by simp) h3⟩
theorem WF.setCell {B ob : Nat} {a b : World} (h : WF B ob a b) (v : Value) : WF B ob a (b.setCell ⟨ob, 0, none⟩ v) := ⟨h.1.setCell (.inl rfl) v, h.2.setCell _ rfl v⟩
theorem WrS.next {W W' : World} {B ob qb nb : Nat} {bs bs' : List Int} {v' : Value} (h : WrS W B ob qb nb bs) (hF : WF B ob W W') (hc : W'.cell? ⟨ob, 0, none⟩ = some v') (hz : W'.frozen? ⟨ob, 0, none⟩ = false)
    (ho : W'.ownsRow B 5 1 v' bs'.length (bs'.map (Value.int .u8))) : WrS W' B ob qb nb bs' := by
  have hl := h.le
  have hb := h.ltb
  have hlo := h.lo
  refine ⟨⟨v', hc, ho⟩, hz, ?_, ?_, h.neq, h.nen, h.lo, h.ltb, h.ltq, h.ltn, Nat.le_trans hl hF.1.size, h.tab.keep (hF.1.block _ (by omega) (fun e => ?_))⟩
  · have := h.ltq
    have hne := h.neq
    rw [cell_same (hF.1.block _ (by omega) (fun e => by rcases e with e | e <;> omega))]
    exact h.q
  · have := h.ltn
    have hne := h.nen
    rw [cell_same (hF.1.block _ (by omega) (fun e => by rcases e with e | e <;> omega))]
    exact h.nn
  · rcases e with e | e <;> omega
theorem WrS.on {W W' : World} {B ob qb nb : Nat} {bs : List Int} (h : WrS W B ob qb nb bs) (hE : Ext W W') : WrS W' B ob qb nb bs := by
  obtain ⟨v, hc, ho⟩ := h.out
  have hl := h.le
  have hb := h.ltb
  exact h.next (WF.of_ext hE) (hE.cell hc) (by rw [frozen_same (hE.heap (by omega))]; exact h.hf) (hE.owns ho)
theorem WrS.put {W W' : World} {B ob qb nb : Nat} {bs bs' : List Int} {u v' : Value} (h : WrS W B ob qb nb bs) (hF : WF B ob W W') (hc : W'.cell? ⟨ob, 0, none⟩ = some u) (hz : W'.frozen? ⟨ob, 0, none⟩ = false)
    (ho : W'.ownsRow B 5 1 v' bs'.length (bs'.map (Value.int .u8))) : WrS (W'.setCell ⟨ob, 0, none⟩ v') B ob qb nb bs' ∧ WF B ob W (W'.setCell ⟨ob, 0, none⟩ v') := by
  have hF2 := hF.setCell v'
  refine ⟨h.next (v' := v') hF2 (World.cell?_setCell_same _ _ _ hc) (by simpa using hz) (owns_setCell ho (fun e => ?_) _), hF2⟩
  have h1 := (ho.lt _ e).1
  have h2 := h.ltb
  simp at h1
  omega
theorem strCells_toBA {xs : List Int} (h : Bytes xs) : Lib.strCells (toBA xs) = xs.map (Value.int .u8) := by
  unfold Lib.strCells
  rw [toBA_list, List.map_map]
  apply List.map_congr_left
  intro x hx
  have := h x hx
  simp
  omega
theorem byteCells_ints (l : List UInt8) : Lib.byteCells l = (l.map (fun b => ((b.toNat : Nat) : Int))).map (Value.int .u8) := by
  unfold Lib.byteCells
  rw [List.map_map]
  rfl
set_option maxRecDepth 10000 in
set_option maxHeartbeats 1000000 in
theorem newWriters_all (w : World) (hlo : 4 < w.heap.size) (hT : PowT w) :
    Calls Tryz.prog 100 #[] w fun e w' => ∃ ob qb nb, e = .returned (wrV ob qb nb) ∧ WrS w' w'.heap.size ob qb nb [] ∧ (w.heap.size ≤ ob ∧ w.heap.size ≤ qb ∧ w.heap.size ≤ nb) ∧ Ext w w' := by
  go_enter Tryz.func100, Tryz.ntmps100
  go_wp2
  refine bodyPost_ret (v := wrV (w.heap.size + 1) (w.heap.size + 1 + 1) (w.heap.size + 1 + 1 + 1)) (by simp [results, Tryz.results100, go_sem, wrV]) rfl ⟨_, _, _, rfl, ?_, ⟨by omega, by omega, by omega⟩, ?_⟩
  · refine ⟨⟨.slice none 0 0, by simp [go_sem], ⟨rfl, .inl ⟨rfl, rfl⟩⟩⟩, by simp [go_sem], by simp [go_sem, seqF], by simp [go_sem, anyF], by omega, by omega, by omega, by simp, by simp, by simp, Nat.le_refl _, hT.keep ?_⟩
    exact ((((Ext.refl w).alloc _).alloc _).alloc _).alloc _ |>.heap hlo
  · exact ((((Ext.refl w).alloc _).alloc _).alloc _).alloc _
theorem newWriters_any (w : World) (hlo : 4 < w.heap.size) (hT : PowT w) :
    Calls Tryz.prog 100 #[] w fun e w' => ∃ ob qb nb, e = .returned (wrV ob qb nb) ∧ WrS w' w'.heap.size ob qb nb [] ∧ w.heap.size ≤ ob ∧ Ext w w' :=
  (newWriters_all w hlo hT).mono (fun _ _ ⟨ob, qb, nb, h1, h2, h3, h4⟩ => ⟨ob, qb, nb, h1, h2, h3.1, h4⟩)
theorem u8_parts : ∃ i, Tryz.prog.info? 5 = some i ∧ i.zero = some (.int .u8 0) ∧ i.size = 1 ∧ i.bytes = 1 := info_parts infoU8
theorem grown_cell {w w' : World} {row : Option Nat} (hg : w.grownBy w' row) {k : Nat} (hk : k < w.heap.size) (hn : row ≠ some k) : w'.heap[k]? = w.heap[k]? := hg.block k hk (fun e => hn e.symm)
set_option maxRecDepth 10000 in
set_option maxHeartbeats 1000000 in
theorem text_any (xs : List Int) (hx : Bytes xs) (B ob qb nb : Nat) (bs : List Int) (w : World) (h : WrS w B ob qb nb bs) (hl : bs.length + xs.length ≤ 1099511627776) :
    Calls Tryz.prog 129 #[.string (toBA xs), .pointer (some ⟨ob, 0, none⟩)] w fun e w' => e = .returned (.tuple #[]) ∧ WrS w' B ob qb nb (bs ++ xs) ∧ WF B ob w w' := by
  obtain ⟨i0, hi, hz0, hz1, hz2⟩ := u8_parts
  obtain ⟨v, hc, ho⟩ := h.out
  obtain ⟨ao, cap, hv, _⟩ := id (ints_of_owns ho)
  have HV := hide hv
  subst hv
  have hle := h.le
  have hlt := h.ltb
  have hfz := h.hf
  have HO := hide ho
  have HS := hide h
  have hsz := toBA_size xs
  have hrow : ∀ k, (Value.slice ao bs.length cap).ownBlock = some k → B ≤ k := fun k hk => (ho.lt k hk).1
  have HR := hide hrow
  clear ho h hrow HV
  go_enter Tryz.func129, Tryz.ntmps129
  go_wp2_with (at_builtin; go_must (refine Lib.wpList_append_own_string _ rfl _ _ 25 9 rfl B 5 i0 Tryz.underlying25 Tryz.underlying9 hi hz0 hz1 hz2 _ _ _ rfl (unhide HO) (toBA xs) rfl (by rw [hsz]; unfold maxLen; omega) (by rw [hsz]; omega) hle ?_); intro v2 w1 ho1 hg1 hq1; rw [hsz, strCells_toBA hx, ← List.map_append, ← List.length_append] at ho1; obtain ⟨ao2, cap2, hv2, _⟩ := id (ints_of_owns ho1); subst hv2; have hb1 := grown_cell hg1 (k := ob) (by omega) (fun e => by have := (unhide HR) _ e; omega); have c1 := (cell_same (o := 0) hb1).trans hc; have f1 := (frozen_same (o := 0) hb1).trans hfz; have HO1 := hide ho1; have HG1 := hide hg1; clear ho1 hg1 hq1 hb1)
  rw [← List.length_append]
  obtain ⟨hS, hF⟩ := (unhide HS).put ((WF.refl _ _ _).grown (unhide HG1) (unhide HO) (Nat.le_refl _)) c1 f1 (unhide HO1)
  exact bodyPost_end (v := .tuple #[]) (by simp [results, Tryz.results129, go_sem]) rfl ⟨rfl, hS, hF⟩
set_option maxRecDepth 10000 in
theorem appendInt_any (B ob n : Nat) (i : Int) (h0 : 0 < i) (h1 : i ≤ 9223372036854775807) (sv : Value) (bs : List Int) (w : World) (hn : n = bs.length) (hown : w.ownsRow B 5 1 sv n (bs.map (Value.int .u8))) (hBw : B ≤ w.heap.size) (hlim : n + 21 ≤ 140737488355328) (hT : PowT w) (hB : 4 < B) :
    Calls Tryz.prog 127 #[sv, .int .i64 i, .int .i64 10] w fun e w' => ∃ ao cap, e = .returned (.slice ao (bs ++ dg i.toNat).length cap) ∧ w'.ownsRow B 5 1 (.slice ao (bs ++ dg i.toNat).length cap) (bs ++ dg i.toNat).length ((bs ++ dg i.toNat).map (Value.int .u8)) ∧ WF B ob w w' ∧ (ob < B → w'.heap[ob]? = w.heap[ob]?) := by
  subst hn
  have hc := Any.strconv_AppendInt_10 Tryz.lays176 B bs.length i (by omega) h1 sv (bs.map (Value.int .u8)) w hown hBw hlim (hT.below hB)
  refine Calls.mono hc ?_
  rintro e w' ⟨v', rfl, ho, hb, hk⟩
  rw [byteCells_ints, itoa_dg i h0, ← List.map_append, show bs.length + (Lib.itoa i).length = (bs ++ dg i.toNat).length by rw [List.length_append, ← itoa_dg i h0]; simp] at ho
  obtain ⟨ao, cap, hv, _⟩ := id (ints_of_owns ho)
  subst hv
  exact ⟨ao, cap, rfl, ho, WF.of_below hb hk, fun h => hb.block ob h⟩
set_option maxRecDepth 10000 in
set_option maxHeartbeats 2000000 in
theorem seq_any (n c : Int) (h0 : 0 < n) (h1 : n ≤ 99999999) (B ob qb nb : Nat) (bs : List Int) (w : World) (h : WrS w B ob qb nb bs) (hl : bs.length ≤ 1099511627776) :
    Calls Tryz.prog 126 #[.int .i64 n, .int .u8 c, .pointer (some ⟨ob, 0, none⟩)] w fun e w' => e = .returned (.tuple #[]) ∧ WrS w' B ob qb nb (bs ++ goL n c) ∧ WF B ob w w' := by
  obtain ⟨i0, hi, hz0, hz1, hz2⟩ := u8_parts
  have hgo : Hid (bs ++ goL n c = ((bs ++ [27, 91]) ++ dg n.toNat) ++ [c]) := by refine hide ?_; rw [goL, if_neg (by omega)]; simp
  have hdl := dg_short 8 n.toNat (by omega)
  obtain ⟨v, hc, ho⟩ := h.out
  obtain ⟨ao, cap, hv, _⟩ := id (ints_of_owns ho)
  subst hv
  have hle := h.le
  have hlt := h.ltb
  have hfz := h.hf
  have HO := hide ho
  have HS := hide h
  have hrow : ∀ k, (Value.slice ao bs.length cap).ownBlock = some k → B ≤ k := fun k hk => (ho.lt k hk).1
  have HR := hide hrow
  clear ho h hrow
  go_enter Tryz.func126, Tryz.ntmps126
  go_wp2_with (at_builtin; go_must (refine wpList_append_lies _ rfl _ _ 25 rfl B 5 i0 (.int .u8 0) 1 1 Tryz.underlying25 hi hz0 hz1 hz2 rfl (by decide) _ _ _ rfl ((unhide HO).alloc _) ⟨w.heap.size, 0, none⟩ 2 2 (([27, 91] : List Int).map (Value.int .u8)) rfl rfl (news_cells _ _) (ints_oneCell _ _) (by decide) (by unfold maxLen; omega) (by omega) (by simp; omega) _ rfl ?_); intro g1 cap1 w1 ho1 hg1 hq1 hz1; rw [← List.map_append, show bs.length + 2 = (bs ++ [27, 91]).length by simp] at ho1; have hb1 := grown_cell hg1 (k := ob) (by simp; omega) (fun e => by have := (unhide HR) _ e; omega); have hb0 := hb1.trans (((Ext.refl w).alloc _).heap (by omega)); have c1 := (cell_same (o := 0) hb0).trans hc; have f1 := (frozen_same (o := 0) hb0).trans hfz; obtain ⟨hS1, hF1⟩ := (unhide HS).put ((WF.of_ext ((Ext.refl w).alloc _)).grown hg1 ((unhide HO).alloc _) (Nat.le_refl _)) c1 f1 ho1; have HS1 := hide hS1; have HF1 := hide hF1; clear ho1 hg1 hq1 hz1 hb1 hb0 hS1 hF1)
  obtain ⟨W1, hW1⟩ : ∃ W1, W1 = w1.setCell ⟨ob, 0, none⟩ (.slice (some ⟨g1, 0, none⟩) (bs.length + 2) cap1) := ⟨_, rfl⟩
  have hn3 : (bs ++ ([27, 91] : List Int)).length = bs.length + 2 := by simp
  rw [hn3, ← hW1] at HS1 HF1
  rw [← hW1]
  have c2 : W1.cell? ⟨ob, 0, none⟩ = some (.slice (some ⟨g1, 0, none⟩) (bs.length + 2) cap1) := by rw [hW1]; exact World.cell?_setCell_same _ _ _ c1
  clear hW1 c1 f1
  obtain ⟨v1, hc1, ho1⟩ := (unhide HS1).out
  obtain rfl := Option.some.inj (c2.symm.trans hc1)
  have hn2 : bs.length + 2 = (bs ++ [27, 91]).length := by simp
  refine (appendInt_any B ob (bs.length + 2) n h0 (by omega) _ (bs ++ [27, 91]) W1 hn2 (by rw [hn2] at ho1 ⊢; exact ho1) (unhide HS1).le (by omega) (unhide HS1).tab (by have := (unhide HS1).lo; omega)).mono ?_
  rintro e w2 ⟨ao2, cap2, rfl, ho2, hb2, hkk⟩
  have hk2 := hkk hlt
  have c3 := (cell_same (o := 0) hk2).trans c2
  have f3 := (frozen_same (o := 0) hk2).trans (unhide HS1).hf
  have hl2 : (bs ++ ([27, 91] : List Int) ++ dg n.toNat).length ≤ 1099511627800 := by simp only [List.length_append, List.length_cons, List.length_nil]; omega
  obtain ⟨L, hL⟩ : ∃ L, L = bs ++ ([27, 91] : List Int) ++ dg n.toNat := ⟨_, rfl⟩
  rw [← hL] at ho2 hl2 ⊢
  have HL := hide hL
  clear hL
  obtain ⟨m, hm⟩ : ∃ m, m = L.length := ⟨_, rfl⟩
  obtain ⟨hS2, hF2⟩ := (unhide HS1).put hb2 c3 f3 ho2
  rw [← hm] at hS2 hF2 hl2 ⊢
  have HM := hide hm
  clear hm
  have HF2 := hide ((unhide HF1).tr hF2)
  have hE2 : ∀ o, WF B ob (w2.setCell ⟨ob, 0, none⟩ (.slice ao2 m cap2)) ((w2.setCell ⟨ob, 0, none⟩ (.slice ao2 m cap2)).alloc o) := fun o => WF.of_ext ((Ext.refl _).alloc o)
  have HE2 := hide hE2
  have c4 := World.cell?_setCell_same _ _ (.slice ao2 m cap2) c3
  obtain ⟨v4, hv4, ho4⟩ := hS2.out
  obtain rfl := Option.some.inj (c4.symm.trans hv4)
  have HS2 := hide hS2
  have hle2 := hS2.le
  rw [World.size_setCell] at hle2
  have f4 := hS2.hf
  have hrow2 : ∀ k, (Value.slice ao2 m cap2).ownBlock = some k → B ≤ k := fun k hk => (ho4.lt k hk).1
  have HR2 := hide hrow2
  rw [← unhide HM] at ho4
  have HO4 := hide ho4
  have HC4 := hide c4
  have HF4 := hide f4
  clear ho2 hS2 hF2 hE2 hv4 ho4 hrow2 hc1 ho1 c2 hb2 hk2 hkk c4 f4 HO HS HR HS1 HF1 hn2 hn3
  go_wp2_with (at_builtin; go_must (refine wpList_append_lies _ rfl _ _ 25 rfl B 5 i0 (.int .u8 0) 1 1 Tryz.underlying25 hi hz0 hz1 hz2 rfl (by decide) _ _ _ rfl ((unhide HO4).alloc _) ⟨w2.heap.size, 0, none⟩ 1 1 (([c] : List Int).map (Value.int .u8)) rfl rfl (by intro j u hu; cases j with | zero => (simp at hu; subst hu; simp [go_sem]) | succ j => simp at hu) (ints_oneCell _ _) (by decide) (by unfold maxLen; omega) (by omega) (by simp; omega) _ rfl ?_); intro g5 cap5 w5 ho5 hg5 hq5 hz5; rw [← List.map_append, show m + 1 = (L ++ [c]).length by rw [unhide HM]; simp] at ho5; have hb5 := grown_cell hg5 (k := ob) (by simp; omega) (fun e => by have := (unhide HR2) _ e; omega); have hb6 := hb5.trans (((Ext.refl (w2.setCell ⟨ob, 0, none⟩ (.slice ao2 m cap2))).alloc _).heap (by simp; omega)); have c5 := (cell_same (o := 0) hb6).trans (unhide HC4); have f5 := (frozen_same (o := 0) hb6).trans (unhide HF4); obtain ⟨hS5, hF5⟩ := (unhide HS2).put (((unhide HE2) _).grown hg5 ((unhide HO4).alloc _) (Nat.le_refl _)) c5 f5 ho5; have HS5 := hide hS5; have HF5 := hide hF5; clear ho5 hg5 hq5 hz5 hb5 hb6 hS5 hF5)
  rw [show m + 1 = (L ++ [c]).length by rw [unhide HM]; simp]
  refine bodyPost_end (v := .tuple #[]) (by simp [results, Tryz.results126, go_sem]) rfl ⟨rfl, ?_, (unhide HF2).tr (unhide HF5)⟩
  rw [unhide hgo, ← unhide HL]
  exact unhide HS5
end Go.Proofs.YtgdadidppelgdaaGreatDoor
