import Derived.Test.YtjfnieodpdklfaaGreatDoorViewM
import Derived.Test.YtjfnieodpdklfaaGreatDoorLayI
import Derived.Test.YtjfnieodpdklfaaGreatDoorLayI2
import Derived.Test.YtjfnieodpdklfaaGreatDoorLayS2
import Derived.Test.YtjfnieodpdklfaaGreatDoorSesOkI
import Derived.Test.YtjfnieodpdklfaaGreatDoorCells
import Derived.Test.YtjfnieodpdklfaaGreatDoorTx
namespace Go.Proofs.YtjfnieodpdklfaaGreatDoor
open Go.RowKit

/-- The block of a session that is valid: its rows, its cursor. -/
structure BlkD where
  n : Nat
  tx : Nat → ByteArray
  R : Nat
  C : Int
/-- What Layout gives for a session. -/
def SS.cs (s : SS) : List (List Int × Int) := cutC (baL s.pr) ++ cutC (baL s.la) ++ cutC (baL s.lb)
def SS.p0 (s : SS) : Nat := (cutC (baL s.pr)).length + (cutC (baL s.la)).length
def SS.blk (s : SS) : BlkD := { n := layCnt s.cs s.cols.toNat s.p0 s.rows.toNat, tx := layT s.cs s.cols.toNat s.p0 s.rows.toNat, R := layRow s.cs s.cols.toNat s.p0 - layFr s.cs s.cols.toNat s.p0 s.rows.toNat, C := layCol s.cs s.cols.toNat s.p0 }
theorem SS.blk_lt (s : SS) (h : sizeB s.cols s.rows = true) : s.blk.R < s.blk.n ∧ s.blk.n ≤ 100 := by
  obtain ⟨cn, rn, e1, e2, _, _, h1, h2⟩ := sizeB_open h
  have e3 : s.rows.toNat = rn := by omega
  have := lay_row_lt (cs := s.cs) (cols := s.cols.toNat) (p := s.p0) (rows := s.rows.toNat) (by omega)
  refine ⟨this.1, ?_⟩
  show layCnt _ _ _ _ ≤ 100
  unfold layCnt
  omega
theorem SS.blk_size (s : SS) (hz : s.Sz) (i : Nat) : (s.blk.tx i).size ≤ 75497472 := by
  have h := (((cuts_one (baL s.pr)).app (cuts_one (baL s.la))).app (cuts_one (baL s.lb))).part
  have k1 := hz.pr
  have k2 := hz.la
  have k3 := hz.lb
  show (layT s.cs s.cols.toNat s.p0 s.rows.toNat i).size ≤ _
  unfold layT layC
  rw [toBA_size]
  refine Nat.le_trans (txT_len _ _) ?_
  have := (h (at0 (layS s.cs s.cols.toNat s.p0 ++ [(s.cs.length : Int)]) (layFr s.cs s.cols.toNat s.p0 s.rows.toNat + i)).toNat (at0 (layS s.cs s.cols.toNat s.p0 ++ [(s.cs.length : Int)]) (layFr s.cs s.cols.toNat s.p0 s.rows.toNat + i + 1)).toNat).1
  rw [baL_len, baL_len, baL_len] at this
  unfold SS.cs at this ⊢
  omega
set_option maxRecDepth 10000 in
set_option maxHeartbeats 2000000 in
theorem blockOf_any (s : SS) (u h p q l d : Value) (w : World) (hA : SesAt w s u h p q l d) (hz : s.Sz) (hs : sizeB s.cols s.rows = true) (hT : Laid w) :
    Calls Tryz.prog 23 #[sesV s u h p q l d] w fun e w' => ∃ v, e = .returned (.agg #[v, .int .i64 (s.blk.R : Int), .int .i64 s.blk.C]) ∧ Own1 w' w.heap.size 9 v s.blk.n (fun i => .string (s.blk.tx i)) ∧ Ext w w' := by
  obtain ⟨ua, uc, ha, hc, pa, pc, qa, qc, la, lc, da, dc, rfl, rfl, rfl, rfl, rfl, rfl⟩ := hA.forms
  obtain ⟨R, hR⟩ : ∃ R : Int, R = (s.blk.R : Int) := ⟨_, rfl⟩
  obtain ⟨C, hC⟩ : ∃ C : Int, C = s.blk.C := ⟨_, rfl⟩
  have hcon : Hid (∀ W, Ext w W → Calls Tryz.prog 63 #[.string s.pr, .agg #[.string s.la, .string s.lb, .string s.lc, .slice ua s.un uc], .int .i64 s.cols, .int .i64 s.rows] W fun e w' => ∃ va vc, e = .returned (.agg #[.slice va s.blk.n vc, .int .i64 R, .int .i64 C]) ∧ Hid (Own1 w' W.heap.size 9 (.slice va s.blk.n vc) s.blk.n (fun i => .string (s.blk.tx i))) ∧ Ext W w') := by
    refine hide (fun W hW => ?_)
    rw [hR, hC]
    obtain ⟨cn, rn, e1, e2, _, _, h1, _⟩ := sizeB_open hs
    have e3 : s.cols.toNat = cn := by omega
    have e4 : s.rows.toNat = rn := by omega
    have hk := implLayout_yes (baL s.pr) (baL s.la) (baL s.lb) s.lc ua s.un uc cn rn W (by rw [← e1, ← e2]; exact hs) (baL_bytes _) (baL_bytes _) (baL_bytes _) (by rw [baL_len]; exact hz.pr) (by rw [baL_len]; exact hz.la) (by rw [baL_len]; exact hz.lb) (hT.below hW.below)
    rw [toBA_baL, toBA_baL, toBA_baL, ← e1, ← e2] at hk
    refine hk.mono ?_
    rintro e w' ⟨v, rfl, o, F⟩
    obtain ⟨va, vc, rfl⟩ := o.slice
    have hlt := (lay_row_lt (cs := s.cs) (cols := s.cols.toNat) (p := s.p0) (rows := s.rows.toNat) (by omega)).2
    unfold SS.blk
    dsimp only
    unfold SS.cs SS.p0 at hlt ⊢
    rw [e3, e4] at hlt ⊢
    refine ⟨va, vc, ?_, hide o, F⟩
    rw [Int.ofNat_sub hlt]
  clear hA hz hs
  rw [← hR, ← hC]
  clear hR hC
  obtain ⟨n, hn⟩ : ∃ n, n = s.blk.n := ⟨_, rfl⟩
  obtain ⟨tx, htx⟩ : ∃ tx, tx = s.blk.tx := ⟨_, rfl⟩
  rw [← hn, ← htx] at hcon ⊢
  clear hn htx
  obtain ⟨V, hV⟩ : ∃ V, V = (w.alloc (.cells #[.string s.pr, .int .i64 s.cols, .int .i64 s.rows, .string s.la, .string s.lb, .string s.lc, .slice ua s.un uc, .slice ha s.kh.length hc, .bool s.kp, .bool s.nav, .slice pa s.pn pc, .int .i64 s.at9, .string s.dr, .bool s.st, .slice qa s.qn qc, .slice la s.ln lc, .slice da s.dn dc] 30)).alloc (.cells #[.slice none 0 0, .int .i64 0, .int .i64 0] 53) := ⟨_, rfl⟩
  have E0 : Ext w V := by rw [hV]; exact ((Ext.refl w).alloc _).alloc _
  have sz0 : w.heap.size + 1 + 1 = V.heap.size := by rw [hV]; simp
  have HB1 : Hid (V.heap[w.heap.size + 1]? = some (.cells #[.slice none 0 0, .int .i64 0, .int .i64 0] 53 (0, 0))) := hide (by rw [hV]; have h := new_block (w.alloc (.cells #[.string s.pr, .int .i64 s.cols, .int .i64 s.rows, .string s.la, .string s.lb, .string s.lc, .slice ua s.un uc, .slice ha s.kh.length hc, .bool s.kp, .bool s.nav, .slice pa s.pn pc, .int .i64 s.at9, .string s.dr, .bool s.st, .slice qa s.qn qc, .slice la s.ln lc, .slice da s.dn dc] 30)) (.cells #[.slice none 0 0, .int .i64 0, .int .i64 0] 53); rw [show (w.alloc (.cells #[.string s.pr, .int .i64 s.cols, .int .i64 s.rows, .string s.la, .string s.lb, .string s.lc, .slice ua s.un uc, .slice ha s.kh.length hc, .bool s.kp, .bool s.nav, .slice pa s.pn pc, .int .i64 s.at9, .string s.dr, .bool s.st, .slice qa s.qn qc, .slice la s.ln lc, .slice da s.dn dc] 30)).heap.size = w.heap.size + 1 by simp] at h; exact h)
  have HV := hide hV
  clear hV
  unfold sesV
  go_enter Tryz.func23, Tryz.ntmps23
  go_wp2_with fail
  rw [← unhide HV]
  clear HV
  refine ((unhide hcon) V E0).mono ?_
  rintro e w1 ⟨va, vc, rfl, O1, F1⟩
  replace HB1 := hide (F1.kept (unhide HB1))
  have b0 : w1.cell? ⟨w.heap.size + 1, 0, none⟩ = some (.slice none 0 0) := cells_of (unhide HB1) 0 _ rfl
  have b1 : w1.cell? ⟨w.heap.size + 1, 1, none⟩ = some (.int .i64 0) := cells_of (unhide HB1) 1 _ rfl
  have b2 : w1.cell? ⟨w.heap.size + 1, 2, none⟩ = some (.int .i64 0) := cells_of (unhide HB1) 2 _ rfl
  have f1 : ∀ i, w1.frozen? ⟨w.heap.size + 1, i, none⟩ = false := fun i => Lib.frozen_of_heap (unhide HB1) i
  go_wp2
  refine bodyPost_ret (v := .agg #[.slice va n vc, .int .i64 R, .int .i64 C]) (by simp [results, Tryz.results23, go_sem, b0, b1, b2]) rfl ⟨_, rfl, ?_⟩
  refine (fun (U : World) (hU : Fr (fun q => q = w.heap.size + 1) w1 U) => ?_ : ∀ U, Fr (fun q => q = w.heap.size + 1) w1 U → Own1 U w.heap.size 9 (.slice va n vc) n (fun i => .string (tx i)) ∧ Ext w U) _ ?_
  · refine ⟨((unhide O1).fr hU (fun g hg e9 => by have := ((unhide O1).lt g hg).1; omega)).mono (by omega), hU.ext (E0.trans F1) (fun q hq => by omega)⟩
  · exact Fr.setCell (S := fun q => q = w.heap.size + 1) (Fr.setCell (S := fun q => q = w.heap.size + 1) (Fr.setCell (S := fun q => q = w.heap.size + 1) (Fr.refl _ _) (a := ⟨w.heap.size + 1, 0, none⟩) rfl _) (a := ⟨w.heap.size + 1, 1, none⟩) rfl _) (a := ⟨w.heap.size + 1, 2, none⟩) rfl _
set_option maxRecDepth 10000 in
set_option maxHeartbeats 2000000 in
theorem l7Block_any (s : SS) (u h p q l d : Value) (w : World) (hA : SesAt w s u h p q l d) (hz : s.Sz) (hs : sizeB s.cols s.rows = true) :
    Calls Tryz.prog 20 #[sesV s u h p q l d] w fun e w' => ∃ v, e = .returned (.agg #[v, .int .i64 (s.blk.R : Int), .int .i64 s.blk.C]) ∧ Own1 w' w.heap.size 9 v s.blk.n (fun i => .string (s.blk.tx i)) ∧ Ext w w' := by
  obtain ⟨ua, uc, ha, hc, pa, pc, qa, qc, la, lc, da, dc, rfl, rfl, rfl, rfl, rfl, rfl⟩ := hA.forms
  obtain ⟨R, hR⟩ : ∃ R : Int, R = (s.blk.R : Int) := ⟨_, rfl⟩
  obtain ⟨C, hC⟩ : ∃ C : Int, C = s.blk.C := ⟨_, rfl⟩
  have hcon : Hid (∀ W, Ext w W → Calls Tryz.prog 52 #[.string s.pr, .agg #[.string s.la, .string s.lb, .string s.lc, .slice ua s.un uc], .int .i64 s.cols, .int .i64 s.rows] W fun e w' => ∃ va vc, e = .returned (.agg #[.slice va s.blk.n vc, .int .i64 R, .int .i64 C]) ∧ Hid (Own1 w' W.heap.size 9 (.slice va s.blk.n vc) s.blk.n (fun i => .string (s.blk.tx i))) ∧ Ext W w') := by
    refine hide (fun W hW => ?_)
    rw [hR, hC]
    obtain ⟨cn, rn, e1, e2, _, _, h1, _⟩ := sizeB_open hs
    have e3 : s.cols.toNat = cn := by omega
    have e4 : s.rows.toNat = rn := by omega
    have hk := specLayout_yes (baL s.pr) (baL s.la) (baL s.lb) s.lc ua s.un uc cn rn W (by rw [← e1, ← e2]; exact hs) (baL_bytes _) (baL_bytes _) (baL_bytes _) (by rw [baL_len]; exact hz.pr) (by rw [baL_len]; exact hz.la) (by rw [baL_len]; exact hz.lb)
    rw [toBA_baL, toBA_baL, toBA_baL, ← e1, ← e2] at hk
    refine hk.mono ?_
    rintro e w' ⟨v, rfl, o, F⟩
    obtain ⟨va, vc, rfl⟩ := o.slice
    have hlt := (lay_row_lt (cs := s.cs) (cols := s.cols.toNat) (p := s.p0) (rows := s.rows.toNat) (by omega)).2
    unfold SS.blk
    dsimp only
    unfold SS.cs SS.p0 at hlt ⊢
    rw [e3, e4] at hlt ⊢
    refine ⟨va, vc, ?_, hide o, F⟩
    rw [Int.ofNat_sub hlt]
  clear hA hz hs
  rw [← hR, ← hC]
  clear hR hC
  obtain ⟨n, hn⟩ : ∃ n, n = s.blk.n := ⟨_, rfl⟩
  obtain ⟨tx, htx⟩ : ∃ tx, tx = s.blk.tx := ⟨_, rfl⟩
  rw [← hn, ← htx] at hcon ⊢
  clear hn htx
  obtain ⟨V, hV⟩ : ∃ V, V = (w.alloc (.cells #[.string s.pr, .int .i64 s.cols, .int .i64 s.rows, .string s.la, .string s.lb, .string s.lc, .slice ua s.un uc, .slice ha s.kh.length hc, .bool s.kp, .bool s.nav, .slice pa s.pn pc, .int .i64 s.at9, .string s.dr, .bool s.st, .slice qa s.qn qc, .slice la s.ln lc, .slice da s.dn dc] 30)).alloc (.cells #[.slice none 0 0, .int .i64 0, .int .i64 0] 53) := ⟨_, rfl⟩
  have E0 : Ext w V := by rw [hV]; exact ((Ext.refl w).alloc _).alloc _
  have sz0 : w.heap.size + 1 + 1 = V.heap.size := by rw [hV]; simp
  have HB1 : Hid (V.heap[w.heap.size + 1]? = some (.cells #[.slice none 0 0, .int .i64 0, .int .i64 0] 53 (0, 0))) := hide (by rw [hV]; have h := new_block (w.alloc (.cells #[.string s.pr, .int .i64 s.cols, .int .i64 s.rows, .string s.la, .string s.lb, .string s.lc, .slice ua s.un uc, .slice ha s.kh.length hc, .bool s.kp, .bool s.nav, .slice pa s.pn pc, .int .i64 s.at9, .string s.dr, .bool s.st, .slice qa s.qn qc, .slice la s.ln lc, .slice da s.dn dc] 30)) (.cells #[.slice none 0 0, .int .i64 0, .int .i64 0] 53); rw [show (w.alloc (.cells #[.string s.pr, .int .i64 s.cols, .int .i64 s.rows, .string s.la, .string s.lb, .string s.lc, .slice ua s.un uc, .slice ha s.kh.length hc, .bool s.kp, .bool s.nav, .slice pa s.pn pc, .int .i64 s.at9, .string s.dr, .bool s.st, .slice qa s.qn qc, .slice la s.ln lc, .slice da s.dn dc] 30)).heap.size = w.heap.size + 1 by simp] at h; exact h)
  have HV := hide hV
  clear hV
  unfold sesV
  go_enter Tryz.func20, Tryz.ntmps20
  go_wp2_with fail
  rw [← unhide HV]
  clear HV
  refine ((unhide hcon) V E0).mono ?_
  rintro e w1 ⟨va, vc, rfl, O1, F1⟩
  replace HB1 := hide (F1.kept (unhide HB1))
  have b0 : w1.cell? ⟨w.heap.size + 1, 0, none⟩ = some (.slice none 0 0) := cells_of (unhide HB1) 0 _ rfl
  have b1 : w1.cell? ⟨w.heap.size + 1, 1, none⟩ = some (.int .i64 0) := cells_of (unhide HB1) 1 _ rfl
  have b2 : w1.cell? ⟨w.heap.size + 1, 2, none⟩ = some (.int .i64 0) := cells_of (unhide HB1) 2 _ rfl
  have f1 : ∀ i, w1.frozen? ⟨w.heap.size + 1, i, none⟩ = false := fun i => Lib.frozen_of_heap (unhide HB1) i
  go_wp2
  refine bodyPost_ret (v := .agg #[.slice va n vc, .int .i64 R, .int .i64 C]) (by simp [results, Tryz.results20, go_sem, b0, b1, b2]) rfl ⟨_, rfl, ?_⟩
  refine (fun (U : World) (hU : Fr (fun q => q = w.heap.size + 1) w1 U) => ?_ : ∀ U, Fr (fun q => q = w.heap.size + 1) w1 U → Own1 U w.heap.size 9 (.slice va n vc) n (fun i => .string (tx i)) ∧ Ext w U) _ ?_
  · refine ⟨((unhide O1).fr hU (fun g hg e9 => by have := ((unhide O1).lt g hg).1; omega)).mono (by omega), hU.ext (E0.trans F1) (fun q hq => by omega)⟩
  · exact Fr.setCell (S := fun q => q = w.heap.size + 1) (Fr.setCell (S := fun q => q = w.heap.size + 1) (Fr.setCell (S := fun q => q = w.heap.size + 1) (Fr.refl _ _) (a := ⟨w.heap.size + 1, 0, none⟩) rfl _) (a := ⟨w.heap.size + 1, 1, none⟩) rfl _) (a := ⟨w.heap.size + 1, 2, none⟩) rfl _
end Go.Proofs.YtjfnieodpdklfaaGreatDoor

namespace Go.Proofs.YtjfnieodpdklfaaGreatDoor
open Go.RowKit

/-- What 'mark' lays into pairs of texts. -/
def mkU (k : Int) (j : Nat) : Value := .string (mtx (k + 2 * (j : Int) + 1))
theorem Own2.setA {w : World} {base : Nat} {T : TypeId} {n : Nat} {A B : Nat → Value} {g cap j : Nat} (h : Own2 w base T (.slice (some ⟨g, 0, none⟩) n cap) n A B) (hj : j < n) (u : Value) :
    Own2 (w.setCell ⟨g, j * 2, none⟩ u) base T (.slice (some ⟨g, 0, none⟩) n cap) n (fun i => if i = j then u else A i) B := by
  obtain ⟨ys, h1, h2⟩ := h
  have hl := h1.1
  refine ⟨_, (h1.stored (j * 2) u).1, fun i hi => ?_⟩
  dsimp only
  by_cases e : i = j
  · subst e
    rw [if_pos rfl, List.getElem?_set_self (by omega), List.getElem?_set_ne (by omega)]
    exact ⟨rfl, (h2 i hi).2⟩
  · rw [if_neg e, List.getElem?_set_ne (by omega), List.getElem?_set_ne (by omega)]
    exact h2 i hi
theorem Own2.setB {w : World} {base : Nat} {T : TypeId} {n : Nat} {A B : Nat → Value} {g cap j : Nat} (h : Own2 w base T (.slice (some ⟨g, 0, none⟩) n cap) n A B) (hj : j < n) (u : Value) :
    Own2 (w.setCell ⟨g, j * 2 + 1, none⟩ u) base T (.slice (some ⟨g, 0, none⟩) n cap) n A (fun i => if i = j then u else B i) := by
  obtain ⟨ys, h1, h2⟩ := h
  have hl := h1.1
  refine ⟨_, (h1.stored (j * 2 + 1) u).1, fun i hi => ?_⟩
  dsimp only
  by_cases e : i = j
  · subst e
    rw [if_pos rfl, List.getElem?_set_ne (by omega), List.getElem?_set_self (by omega)]
    exact ⟨(h2 i hi).1, rfl⟩
  · rw [if_neg e, List.getElem?_set_ne (by omega), List.getElem?_set_ne (by omega)]
    exact h2 i hi
set_option maxRecDepth 10000 in
set_option maxHeartbeats 1000000 in
theorem markSnapS_any (base : Nat) (v : Value) (n : Nat) (A B : Nat → Value) (k : Int) (w : World) (hv : Own2 w base 109 v n A B) (hn : n ≤ 1048576) (hk : 0 ≤ k) (hk2 : k ≤ 1099511627776) :
    Calls Tryz.prog 65 #[v, .int .i64 k] w fun e w' => e = .returned (.int .i64 (k + 2 * (n : Int))) ∧ Own2 w' base 109 v n (mkT k) (mkU k) ∧ Fr (fun g => v.ownBlock = some g) w w' := by
  have HV := hide hv
  rcases hv.form with ⟨rfl, h0⟩ | ⟨g, cap, rfl⟩
  · subst h0
    clear hv
    go_enter Tryz.func65, Tryz.ntmps65
    go_wp2
    go_loop [1, 5] (fun a i => a = .int .i64 k ∧ i = .int .i64 0) (fun _ _ => 0)
    case atStart => exact ⟨rfl, rfl⟩
    case round =>
      obtain ⟨rfl, rfl⟩ := hrel
      go_wp2
      go_ret
      exact ⟨ret_int (by simp), (unhide HV).congr (fun j hj => by omega), Fr.refl _ _⟩
  · clear hv
    go_enter Tryz.func65, Tryz.ntmps65
    go_wp2
    go_loopw [1, 5] (fun a i wr => ∃ j : Nat, j ≤ n ∧ a = .int .i64 (k + 2 * (j : Int)) ∧ i = .int .i64 j ∧ Hid (Own2 wr base 109 (.slice (some ⟨g, 0, none⟩) n cap) n (fun i => if i < j then mkT k i else A i) (fun i => if i < j then mkU k i else B i)) ∧ Hid (Fr (fun q => (Value.slice (some ⟨g, 0, none⟩) n cap).ownBlock = some q) w wr)) (fun _ i _ => n - (intOf i).toNat)
    case atStart => exact ⟨0, Nat.zero_le _, by go_num, rfl, (unhide HV).congr (fun j hj => ⟨by simp, by simp⟩), Fr.refl _ _⟩
    case round =>
      obtain ⟨j, hj, rfl, rfl, HO, HF⟩ := hrel
      by_cases hlt : j < n
      · have bj : (j : Int) < (n : Int) := by omega
        obtain ⟨K, hK⟩ : ∃ K, K = k + 2 * (j : Int) := ⟨_, rfl⟩
        have HK := hide hK
        have hKb : 0 ≤ K ∧ K ≤ 1099513724928 := by omega
        rw [← hK]
        clear hK
        go_wp2_with fail
        refine (markText_any K _ (by omega)).mono ?_
        rintro e w1 ⟨rfl, F1⟩
        have hO1 := (unhide HO).ext F1
        obtain ⟨⟨c0, f0⟩, c1, f1⟩ := hO1.cell hlt
        have HS1 := hide (hO1.setA hlt (.string (mtx K)))
        have HF1 := hide (((unhide HF).grown F1 (fun q hq => by simp at hq)).setCell (a := ⟨g, j * 2, none⟩) rfl (.string (mtx K)))
        clear hO1
        go_wp2_with fail
        refine (markText_any (K + 1) _ (by omega)).mono ?_
        rintro e w2 ⟨rfl, F2⟩
        have hO2 := (unhide HS1).ext F2
        obtain ⟨⟨d0, e0⟩, d1, e1⟩ := hO2.cell hlt
        have HS := hide ((hO2.setB hlt (.string (mtx (K + 1)))).congr (A' := fun i => if i < j + 1 then mkT k i else A i) (B' := fun i => if i < j + 1 then mkU k i else B i) (fun i hi => by
          by_cases e : i = j
          · subst e
            rw [if_pos rfl, if_pos rfl, if_pos (by omega), if_pos (by omega), mkT, mkU, ← unhide HK]
            exact ⟨rfl, rfl⟩
          · rw [if_neg e, if_neg e]
            by_cases e2 : i < j
            · rw [if_pos e2, if_pos e2, if_pos (by omega), if_pos (by omega)]; exact ⟨rfl, rfl⟩
            · rw [if_neg e2, if_neg e2, if_neg (by omega), if_neg (by omega)]; exact ⟨rfl, rfl⟩))
        have HF2 := hide (((unhide HF1).grown F2 (fun q hq => by simp at hq)).setCell (a := ⟨g, j * 2 + 1, none⟩) rfl (.string (mtx (K + 1))))
        clear hO2
        go_wp2
        go_roundw
        case rel => exact ⟨j + 1, by omega, by rw [unhide HK]; go_num, by go_num, HS, HF2⟩
        case measure => simp [intOf]; omega
      · obtain rfl : j = n := by omega
        have HFIN := hide ((unhide HO).congr (A' := mkT k) (B' := mkU k) (fun i hi => ⟨by simp [hi], by simp [hi]⟩))
        go_wp2
        go_ret
        exact ⟨rfl, unhide HFIN, unhide HF⟩
set_option maxRecDepth 10000 in
set_option maxHeartbeats 1000000 in
theorem heldSnapS_any (v : Value) (n : Nat) (k : Int) (w : World) (hv : Row2At w v n (mkT k) (mkU k)) (hn : n ≤ 1048576) (hk : 0 ≤ k) (hk2 : k ≤ 1099511627776) :
    Calls Tryz.prog 67 #[v, .int .i64 k] w fun e w' => e = .returned (.int .i64 (k + 2 * (n : Int))) ∧ Ext w w' := by
  obtain ⟨ao, ca, rfl, hca, hxa⟩ := hv
  by_cases h0 : n = 0
  · subst h0
    clear hxa
    go_enter Tryz.func67, Tryz.ntmps67
    go_wp2
    go_loop [1, 5] (fun a i => a = .int .i64 k ∧ i = .int .i64 0) (fun _ _ => 0)
    case atStart => exact ⟨rfl, rfl⟩
    case round =>
      obtain ⟨rfl, rfl⟩ := hrel
      go_wp2
      go_ret
      exact ⟨ret_int (by simp), Ext.refl _⟩
  · obtain ⟨b, off, rfl, hc⟩ := hxa (by omega)
    have HC := hide hc
    clear hxa hc
    go_enter Tryz.func67, Tryz.ntmps67
    go_wp2
    go_loopw [1, 5] (fun a i wr => ∃ j : Nat, j ≤ n ∧ a = .int .i64 (k + 2 * (j : Int)) ∧ i = .int .i64 j ∧ Ext w wr) (fun _ i _ => n - (intOf i).toNat)
    case atStart => exact ⟨0, Nat.zero_le _, by go_num, rfl, Ext.refl _⟩
    case round =>
      obtain ⟨j, hj, rfl, rfl, hext⟩ := hrel
      by_cases hlt : j < n
      · have bj : (j : Int) < (n : Int) := by omega
        have hcc := (unhide HC) j hlt
        have g1 := hext.cell hcc.1
        have g2 := hext.cell hcc.2
        simp only [mkT, mkU] at g1 g2
        obtain ⟨K, hK⟩ : ∃ K, K = k + 2 * (j : Int) := ⟨_, rfl⟩
        have HK := hide hK
        have hKb : 0 ≤ K ∧ K ≤ 1099513724928 := by omega
        rw [← hK] at g1 g2 ⊢
        clear hK hcc
        have G2 := hide g2
        clear g2
        go_wp2
        go_region_held3 (fun W => Ext wr W ∧ W.cell? ⟨b, off + j * 2, none⟩ = some (.string (mtx K))) (first | exact ⟨(Ext.refl wr).drew, g1⟩ | exact ⟨(Ext.refl wr).drew.trans he', he'.cell g1⟩) (first | (go_at_call 66; refine (markText_any K _ (by omega)).mono ?_; rintro e w' ⟨rfl, he'⟩))
        rename_i hS
        have hE := hext.trans hS.1
        have g3 := hS.1.cell (unhide G2)
        have hF := hS.1
        clear hS g1
        go_wp2
        go_region_held3 (fun W => Ext wr W ∧ W.cell? ⟨b, off + j * 2 + 1, none⟩ = some (.string (mtx (K + 1)))) (first | exact ⟨hF.drew, g3⟩ | exact ⟨hF.drew.trans he2, he2.cell g3⟩) (first | (go_at_call 66; refine (markText_any (K + 1) _ (by omega)).mono ?_; rintro e w'' ⟨rfl, he2⟩))
        rename_i hS
        have hE := hext.trans hS.1
        clear hS
        go_wp2
        go_roundw
        case rel => exact ⟨j + 1, by omega, by rw [unhide HK]; go_num, by go_num, hE⟩
        case measure => simp [intOf]; omega
      · obtain rfl : j = n := by omega
        go_wp2
        go_ret
        exact ⟨rfl, hext⟩
set_option maxRecDepth 10000 in
set_option maxHeartbeats 1000000 in
theorem markLine_any (base : Nat) (a b c : ByteArray) (v : Value) (n : Nat) (A B : Nat → Value) (k : Int) (w : World) (hv : Own2 w base 109 v n A B) (hn : n ≤ 1048576) (hk : 0 ≤ k) (hk2 : k ≤ 1099511627776) :
    Calls Tryz.prog 27 #[.agg #[.string a, .string b, .string c, v], .int .i64 k] w fun e w' => e = .returned (.int .i64 (k + 2 * (n : Int))) ∧ Own2 w' base 109 v n (mkT k) (mkU k) ∧ Fr (fun g => v.ownBlock = some g) w w' := by
  have HC := hide (fun U (hU : Ext w U) => markSnapS_any base v n A B k U (hv.ext hU) hn hk hk2)
  clear hv
  go_enter Tryz.func27, Tryz.ntmps27
  go_wp2_with fail
  refine ((unhide HC) _ ((Ext.refl w).alloc _)).mono ?_
  rintro e w1 ⟨rfl, o1, F1⟩
  have O1 := hide o1
  clear o1
  go_wp2
  go_ret
  exact ⟨rfl, unhide O1, ⟨F1.os, F1.tape, F1.output, Nat.le_trans ((Ext.refl w).alloc _).size F1.size, fun i hi hn => (F1.block i (Nat.lt_of_lt_of_le hi ((Ext.refl w).alloc _).size) hn).trans (((Ext.refl w).alloc _).heap hi)⟩⟩
set_option maxRecDepth 10000 in
set_option maxHeartbeats 1000000 in
theorem heldLine_any (a b c : ByteArray) (v : Value) (n : Nat) (k : Int) (w : World) (hv : Row2At w v n (mkT k) (mkU k)) (hn : n ≤ 1048576) (hk : 0 ≤ k) (hk2 : k ≤ 1099511627776) :
    Calls Tryz.prog 30 #[.agg #[.string a, .string b, .string c, v], .int .i64 k] w fun e w' => e = .returned (.int .i64 (k + 2 * (n : Int))) ∧ Ext w w' := by
  have HC := hide (fun U (hU : Ext w U) => heldSnapS_any v n k U (hv.ext hU) hn hk hk2)
  clear hv
  have hneg : ¬ k + 2 * (n : Int) < 0 := by omega
  go_enter Tryz.func30, Tryz.ntmps30
  go_wp2_with fail
  refine ((unhide HC) _ ((Ext.refl w).alloc _)).mono ?_
  rintro e w1 ⟨rfl, F1⟩
  go_wp2
  go_ret
  exact ⟨rfl, ((Ext.refl w).alloc _).trans F1⟩
end Go.Proofs.YtjfnieodpdklfaaGreatDoor

namespace Go.Proofs.YtjfnieodpdklfaaGreatDoor
open Go.RowKit

def SS.m (s : SS) : Nat := 2 * s.un + s.kh.length + s.pn + s.qn + s.ln + s.dn
def mkSS (k : Int) (s : SS) : SS := { s with
  ut := fun j => mtx (k + 2 * (j : Int)), uh := fun j => mtx (k + 2 * (j : Int) + 1),
  kh := mkU8 (k + 2 * (s.un : Int)) s.kh.length,
  pt := fun j => mtx (k + 2 * (s.un : Int) + (s.kh.length : Int) + (j : Int)), qt := fun j => mtx (k + 2 * (s.un : Int) + (s.kh.length : Int) + (s.pn : Int) + (j : Int)), lt := fun j => mtx (k + 2 * (s.un : Int) + (s.kh.length : Int) + (s.pn : Int) + (s.qn : Int) + (j : Int)), dt := fun j => mtx (k + 2 * (s.un : Int) + (s.kh.length : Int) + (s.pn : Int) + (s.qn : Int) + (s.ln : Int) + (j : Int)) }
theorem pw6 {a b c d e f : Value} (h : List.Pairwise Apart [a, b, c, d, e, f]) : (Apart a b ∧ Apart a c ∧ Apart a d ∧ Apart a e ∧ Apart a f) ∧ (Apart b c ∧ Apart b d ∧ Apart b e ∧ Apart b f) ∧ (Apart c d ∧ Apart c e ∧ Apart c f) ∧ (Apart d e ∧ Apart d f) ∧ Apart e f := by
  simp only [List.pairwise_cons, List.mem_cons, List.not_mem_nil, or_false, forall_eq_or_imp, forall_eq] at h
  obtain ⟨⟨h1, h2, h3, h4, h5⟩, ⟨h6, h7, h8, h9⟩, ⟨h10, h11, h12⟩, ⟨h13, h14⟩, h15, _⟩ := h
  exact ⟨⟨h1, h2, h3, h4, h5⟩, ⟨h6, h7, h8, h9⟩, ⟨h10, h11, h12⟩, ⟨h13, h14⟩, h15⟩
set_option maxRecDepth 10000 in
set_option maxHeartbeats 4000000 in
theorem markSession_any (base : Nat) (s : SS) (u h p q l d : Value) (k : Int) (w : World) (hO : OwnSes w base s u h p q l d) (hz : s.Sz) (hk : 0 ≤ k) (hk2 : k ≤ 68719476736) :
    Calls Tryz.prog 9 #[sesV s u h p q l d, .int .i64 k] w fun e w' => e = .returned (.int .i64 (k + (s.m : Int))) ∧ OwnSes w' base (mkSS k s) u h p q l d ∧ Fr (SesFoot u h p q l d) w w' := by
  obtain ⟨ua, uc, ha, hc, pa, pc, qa, qc, la, lc, da, dc, rfl, rfl, rfl, rfl, rfl, rfl⟩ := hO.reads.forms
  have AP := hide hO.ap
  have LT := hide (fun g hg => hO.foot (g := g) hg)
  obtain ⟨⟨a01, a02, a03, a04, a05⟩, ⟨a12, a13, a14, a15⟩, ⟨a23, a24, a25⟩, ⟨a34, a35⟩, a45⟩ := pw6 hO.ap
  have z0 := hz.un
  have z1 := hz.kh
  have z2 := hz.pn
  have z3 := hz.qn
  have z4 := hz.ln
  have z5 := hz.dn
  obtain ⟨V, hV⟩ : ∃ V, V = w.alloc (.cells #[.string s.pr, .int .i64 s.cols, .int .i64 s.rows, .string s.la, .string s.lb, .string s.lc, .slice ua s.un uc, .slice ha s.kh.length hc, .bool s.kp, .bool s.nav, .slice pa s.pn pc, .int .i64 s.at9, .string s.dr, .bool s.st, .slice qa s.qn qc, .slice la s.ln lc, .slice da s.dn dc] 30) := ⟨_, rfl⟩
  have E0 : Ext w V := by rw [hV]; exact (Ext.refl w).alloc _
  have HB : Hid (V.heap[w.heap.size]? = some (.cells #[.string s.pr, .int .i64 s.cols, .int .i64 s.rows, .string s.la, .string s.lb, .string s.lc, .slice ua s.un uc, .slice ha s.kh.length hc, .bool s.kp, .bool s.nav, .slice pa s.pn pc, .int .i64 s.at9, .string s.dr, .bool s.st, .slice qa s.qn qc, .slice la s.ln lc, .slice da s.dn dc] 30 (0, 0))) := hide (by rw [hV]; exact new_block w _)
  have HV := hide hV
  clear hV
  have O0 := hide (hO.ext E0).un
  have O1 := hide (hO.ext E0).kh
  have O2 := hide (hO.ext E0).pa
  have O3 := hide (hO.ext E0).qu
  have O4 := hide (hO.ext E0).lo
  have O5 := hide (hO.ext E0).dn
  have A01 := hide a01
  have A02 := hide a02
  have A03 := hide a03
  have A04 := hide a04
  have A05 := hide a05
  have A12 := hide a12
  have A13 := hide a13
  have A14 := hide a14
  have A15 := hide a15
  have A23 := hide a23
  have A24 := hide a24
  have A25 := hide a25
  have A34 := hide a34
  have A35 := hide a35
  have A45 := hide a45
  clear hO hz a01 a02 a03 a04 a05 a12 a13 a14 a15 a23 a24 a25 a34 a35 a45
  unfold sesV
  go_enter Tryz.func9, Tryz.ntmps9
  go_wp2_with fail
  rw [← unhide HV]
  clear HV
  refine (markLine_any base s.la s.lb s.lc _ s.un _ _ (k) V (unhide O0) (by omega) (by omega) (by omega)).mono ?_
  rintro e w1 ⟨rfl, o, F⟩
  replace O1 := hide (F.owns (unhide O1) (fun g hg e9 => (unhide A01) g e9 hg))
  replace O2 := hide ((unhide O2).fr F (fun g hg e9 => (unhide A02) g e9 hg))
  replace O3 := hide ((unhide O3).fr F (fun g hg e9 => (unhide A03) g e9 hg))
  replace O4 := hide ((unhide O4).fr F (fun g hg e9 => (unhide A04) g e9 hg))
  replace O5 := hide ((unhide O5).fr F (fun g hg e9 => (unhide A05) g e9 hg))
  replace O0 := hide o
  replace HB := hide (F.kept (unhide HB) (fun h9 => by have := ((unhide LT) w.heap.size (.inl h9)).2; omega))
  have FZ : Fr (SesFoot (.slice ua s.un uc) (.slice ha s.kh.length hc) (.slice pa s.pn pc) (.slice qa s.qn qc) (.slice la s.ln lc) (.slice da s.dn dc)) V w1 := (F.mono (fun g hq => (show SesFoot _ _ _ _ _ _ g from .inl hq)))
  clear o F
  have c0_7 : w1.cell? ⟨w.heap.size, 7, none⟩ = some (.slice ha s.kh.length hc) := cells_of (unhide HB) 7 _ rfl
  have c0_8 : w1.cell? ⟨w.heap.size, 8, none⟩ = some (.bool s.kp) := cells_of (unhide HB) 8 _ rfl
  go_wp2_with fail
  clear c0_7 c0_8
  refine (markKeyReader_any base _ s.kh.length _ s.kp (k + 2 * (s.un : Int)) w1 (unhide O1) (by omega) (by omega) (by omega)).mono ?_
  rintro e w2 ⟨rfl, o, F⟩
  replace F : Fr (fun g => (.slice ha s.kh.length hc : Value).ownBlock = some g) w1 w2 := (Fr.refl _ w1).grown F (fun g hg => hg)
  replace O0 := hide ((unhide O0).fr F (fun g hg e9 => (unhide A01) g hg e9))
  replace O2 := hide ((unhide O2).fr F (fun g hg e9 => (unhide A12) g e9 hg))
  replace O3 := hide ((unhide O3).fr F (fun g hg e9 => (unhide A13) g e9 hg))
  replace O4 := hide ((unhide O4).fr F (fun g hg e9 => (unhide A14) g e9 hg))
  replace O5 := hide ((unhide O5).fr F (fun g hg e9 => (unhide A15) g e9 hg))
  replace O1 := hide o
  replace HB := hide (F.kept (unhide HB) (fun h9 => by have := ((unhide LT) w.heap.size (.inr (.inl h9))).2; omega))
  replace FZ := FZ.tr (F.mono (fun g hq => (show SesFoot _ _ _ _ _ _ g from .inr (.inl hq))))
  clear o F
  have c1_10 : w2.cell? ⟨w.heap.size, 10, none⟩ = some (.slice pa s.pn pc) := cells_of (unhide HB) 10 _ rfl
  go_wp2_with fail
  clear c1_10
  refine (markStringS_any base _ s.pn _ (k + 2 * (s.un : Int) + (s.kh.length : Int)) w2 (unhide O2) (by omega) (by omega) (by omega)).mono ?_
  rintro e w3 ⟨rfl, o, F⟩
  replace O0 := hide ((unhide O0).fr F (fun g hg e9 => (unhide A02) g hg e9))
  replace O1 := hide (F.owns (unhide O1) (fun g hg e9 => (unhide A12) g hg e9))
  replace O3 := hide ((unhide O3).fr F (fun g hg e9 => (unhide A23) g e9 hg))
  replace O4 := hide ((unhide O4).fr F (fun g hg e9 => (unhide A24) g e9 hg))
  replace O5 := hide ((unhide O5).fr F (fun g hg e9 => (unhide A25) g e9 hg))
  replace O2 := hide o
  replace HB := hide (F.kept (unhide HB) (fun h9 => by have := ((unhide LT) w.heap.size (.inr (.inr (.inl h9)))).2; omega))
  replace FZ := FZ.tr (F.mono (fun g hq => (show SesFoot _ _ _ _ _ _ g from .inr (.inr (.inl hq)))))
  clear o F
  have c2_14 : w3.cell? ⟨w.heap.size, 14, none⟩ = some (.slice qa s.qn qc) := cells_of (unhide HB) 14 _ rfl
  go_wp2_with fail
  clear c2_14
  refine (markStringS_any base _ s.qn _ (k + 2 * (s.un : Int) + (s.kh.length : Int) + (s.pn : Int)) w3 (unhide O3) (by omega) (by omega) (by omega)).mono ?_
  rintro e w4 ⟨rfl, o, F⟩
  replace O0 := hide ((unhide O0).fr F (fun g hg e9 => (unhide A03) g hg e9))
  replace O1 := hide (F.owns (unhide O1) (fun g hg e9 => (unhide A13) g hg e9))
  replace O2 := hide ((unhide O2).fr F (fun g hg e9 => (unhide A23) g hg e9))
  replace O4 := hide ((unhide O4).fr F (fun g hg e9 => (unhide A34) g e9 hg))
  replace O5 := hide ((unhide O5).fr F (fun g hg e9 => (unhide A35) g e9 hg))
  replace O3 := hide o
  replace HB := hide (F.kept (unhide HB) (fun h9 => by have := ((unhide LT) w.heap.size (.inr (.inr (.inr (.inl h9))))).2; omega))
  replace FZ := FZ.tr (F.mono (fun g hq => (show SesFoot _ _ _ _ _ _ g from .inr (.inr (.inr (.inl hq))))))
  clear o F
  have c3_15 : w4.cell? ⟨w.heap.size, 15, none⟩ = some (.slice la s.ln lc) := cells_of (unhide HB) 15 _ rfl
  go_wp2_with fail
  clear c3_15
  refine (markStringS_any base _ s.ln _ (k + 2 * (s.un : Int) + (s.kh.length : Int) + (s.pn : Int) + (s.qn : Int)) w4 (unhide O4) (by omega) (by omega) (by omega)).mono ?_
  rintro e w5 ⟨rfl, o, F⟩
  replace O0 := hide ((unhide O0).fr F (fun g hg e9 => (unhide A04) g hg e9))
  replace O1 := hide (F.owns (unhide O1) (fun g hg e9 => (unhide A14) g hg e9))
  replace O2 := hide ((unhide O2).fr F (fun g hg e9 => (unhide A24) g hg e9))
  replace O3 := hide ((unhide O3).fr F (fun g hg e9 => (unhide A34) g hg e9))
  replace O5 := hide ((unhide O5).fr F (fun g hg e9 => (unhide A45) g e9 hg))
  replace O4 := hide o
  replace HB := hide (F.kept (unhide HB) (fun h9 => by have := ((unhide LT) w.heap.size (.inr (.inr (.inr (.inr (.inl h9)))))).2; omega))
  replace FZ := FZ.tr (F.mono (fun g hq => (show SesFoot _ _ _ _ _ _ g from .inr (.inr (.inr (.inr (.inl hq)))))))
  clear o F
  have c4_16 : w5.cell? ⟨w.heap.size, 16, none⟩ = some (.slice da s.dn dc) := cells_of (unhide HB) 16 _ rfl
  go_wp2_with fail
  clear c4_16
  refine (markStringS_any base _ s.dn _ (k + 2 * (s.un : Int) + (s.kh.length : Int) + (s.pn : Int) + (s.qn : Int) + (s.ln : Int)) w5 (unhide O5) (by omega) (by omega) (by omega)).mono ?_
  rintro e w6 ⟨rfl, o, F⟩
  replace O0 := hide ((unhide O0).fr F (fun g hg e9 => (unhide A05) g hg e9))
  replace O1 := hide (F.owns (unhide O1) (fun g hg e9 => (unhide A15) g hg e9))
  replace O2 := hide ((unhide O2).fr F (fun g hg e9 => (unhide A25) g hg e9))
  replace O3 := hide ((unhide O3).fr F (fun g hg e9 => (unhide A35) g hg e9))
  replace O4 := hide ((unhide O4).fr F (fun g hg e9 => (unhide A45) g hg e9))
  replace O5 := hide o
  replace HB := hide (F.kept (unhide HB) (fun h9 => by have := ((unhide LT) w.heap.size (.inr (.inr (.inr (.inr (.inr (h9))))))).2; omega))
  replace FZ := FZ.tr (F.mono (fun g hq => (show SesFoot _ _ _ _ _ _ g from .inr (.inr (.inr (.inr (.inr (hq))))))))
  clear o F
  go_wp2
  go_ret
  refine ⟨congrArg Ending.returned (congrArg (Value.int .i64) (by unfold SS.m; omega)), ⟨unhide O0, ?_, unhide O2, unhide O3, unhide O4, unhide O5, unhide AP⟩, ?_⟩
  · have h1 := unhide O1
    show w6.ownsRow base 5 1 _ (mkU8 (k + 2 * (s.un : Int)) s.kh.length).length _
    rw [mkU8_len]
    exact h1
  · exact (Fr.of_ext E0).tr FZ
theorem sesK_mark (s : SS) (hz : s.Sz) : MarkOk 9 (sesK s) (fun k => sesK (mkSS k s)) s.m := by
  rintro w b S v k ⟨u, h, p, q, l, d, rfl, H, hS⟩ h0 h1
  refine (markSession_any b s u h p q l d k w H hz h0 h1).mono ?_
  rintro e w' ⟨rfl, o, f⟩
  exact ⟨rfl, ⟨u, h, p, q, l, d, rfl, o, hS⟩, f.mono (fun g hg => (hS g).2 hg)⟩
set_option maxRecDepth 10000 in
set_option maxHeartbeats 4000000 in
theorem heldSession_any (s : SS) (u h p q l d : Value) (k : Int) (w : World) (hO : SesAt w (mkSS k s) u h p q l d) (hz : s.Sz) (hk : 0 ≤ k) (hk2 : k ≤ 68719476736) :
    Calls Tryz.prog 11 #[sesV (mkSS k s) u h p q l d, .int .i64 k] w fun e w' => e = .returned (.int .i64 (k + (s.m : Int))) ∧ Ext w w' := by
  have z0 := hz.un
  have z1 := hz.kh
  have z2 := hz.pn
  have z3 := hz.qn
  have z4 := hz.ln
  have z5 := hz.dn
  have hO1 : IntsAt w .u8 h (mkU8 (k + 2 * (s.un : Int)) s.kh.length) := hO.kh
  obtain ⟨ua, uc, ha, hc, pa, pc, qa, qc, la, lc, da, dc, rfl, e2, rfl, rfl, rfl, rfl⟩ := hO.forms
  have e3 : h = .slice ha s.kh.length hc := by rw [e2]; show Value.slice ha (mkU8 _ _).length hc = _; rw [mkU8_len]
  clear e2
  subst e3
  have h0 := hide (fun W (hW : Ext w W) => heldLine_any s.la s.lb s.lc _ s.un (k) W (hO.un.ext hW) (by omega) (by omega) (by omega))
  have h1 := hide (fun W (hW : Ext w W) => heldKeyReader_any _ s.kh.length s.kp (k + 2 * (s.un : Int)) W (hO1.ext hW) (by omega) (by omega) (by omega))
  have h2 := hide (fun W (hW : Ext w W) => heldStringS_any _ s.pn (k + 2 * (s.un : Int) + (s.kh.length : Int)) W (hO.pa.ext hW) (by omega) (by omega) (by omega))
  have h3 := hide (fun W (hW : Ext w W) => heldStringS_any _ s.qn (k + 2 * (s.un : Int) + (s.kh.length : Int) + (s.pn : Int)) W (hO.qu.ext hW) (by omega) (by omega) (by omega))
  have h4 := hide (fun W (hW : Ext w W) => heldStringS_any _ s.ln (k + 2 * (s.un : Int) + (s.kh.length : Int) + (s.pn : Int) + (s.qn : Int)) W (hO.lo.ext hW) (by omega) (by omega) (by omega))
  have h5 := hide (fun W (hW : Ext w W) => heldStringS_any _ s.dn (k + 2 * (s.un : Int) + (s.kh.length : Int) + (s.pn : Int) + (s.qn : Int) + (s.ln : Int)) W (hO.dn.ext hW) (by omega) (by omega) (by omega))
  obtain ⟨V, hV⟩ : ∃ V, V = w.alloc (.cells #[.string s.pr, .int .i64 s.cols, .int .i64 s.rows, .string s.la, .string s.lb, .string s.lc, .slice ua s.un uc, .slice ha s.kh.length hc, .bool s.kp, .bool s.nav, .slice pa s.pn pc, .int .i64 s.at9, .string s.dr, .bool s.st, .slice qa s.qn qc, .slice la s.ln lc, .slice da s.dn dc] 30) := ⟨_, rfl⟩
  have E0 : Ext w V := by rw [hV]; exact (Ext.refl w).alloc _
  have HB : Hid (V.heap[w.heap.size]? = some (.cells #[.string s.pr, .int .i64 s.cols, .int .i64 s.rows, .string s.la, .string s.lb, .string s.lc, .slice ua s.un uc, .slice ha s.kh.length hc, .bool s.kp, .bool s.nav, .slice pa s.pn pc, .int .i64 s.at9, .string s.dr, .bool s.st, .slice qa s.qn qc, .slice la s.ln lc, .slice da s.dn dc] 30 (0, 0))) := hide (by rw [hV]; exact new_block w _)
  have HV := hide hV
  clear hV hO hO1
  show Calls Tryz.prog 11 #[.agg #[.string s.pr, .int .i64 s.cols, .int .i64 s.rows, .string s.la, .string s.lb, .string s.lc, .slice ua s.un uc, .slice ha s.kh.length hc, .bool s.kp, .bool s.nav, .slice pa s.pn pc, .int .i64 s.at9, .string s.dr, .bool s.st, .slice qa s.qn qc, .slice la s.ln lc, .slice da s.dn dc], .int .i64 k] w _
  go_enter Tryz.func11, Tryz.ntmps11
  go_wp2_with fail
  rw [← unhide HV]
  clear HV
  refine ((unhide h0) _ E0).mono ?_
  rintro e w1 ⟨rfl, F⟩
  have E1 := E0.trans F
  replace HB := hide (F.kept (unhide HB))
  clear F
  have n0 : ¬ k + 2 * (s.un : Int) < 0 := by omega
  have c0_7 : w1.cell? ⟨w.heap.size, 7, none⟩ = some (.slice ha s.kh.length hc) := cells_of (unhide HB) 7 _ rfl
  have c0_8 : w1.cell? ⟨w.heap.size, 8, none⟩ = some (.bool s.kp) := cells_of (unhide HB) 8 _ rfl
  go_wp2_with fail
  clear c0_7 c0_8
  refine ((unhide h1) _ E1).mono ?_
  rintro e w2 ⟨rfl, F⟩
  have E2 := E1.trans F
  replace HB := hide (F.kept (unhide HB))
  clear F
  have n1 : ¬ k + 2 * (s.un : Int) + (s.kh.length : Int) < 0 := by omega
  have c1_10 : w2.cell? ⟨w.heap.size, 10, none⟩ = some (.slice pa s.pn pc) := cells_of (unhide HB) 10 _ rfl
  go_wp2_with fail
  clear c1_10
  refine ((unhide h2) _ E2).mono ?_
  rintro e w3 ⟨rfl, F⟩
  have E3 := E2.trans F
  replace HB := hide (F.kept (unhide HB))
  clear F
  have n2 : ¬ k + 2 * (s.un : Int) + (s.kh.length : Int) + (s.pn : Int) < 0 := by omega
  have c2_14 : w3.cell? ⟨w.heap.size, 14, none⟩ = some (.slice qa s.qn qc) := cells_of (unhide HB) 14 _ rfl
  go_wp2_with fail
  clear c2_14
  refine ((unhide h3) _ E3).mono ?_
  rintro e w4 ⟨rfl, F⟩
  have E4 := E3.trans F
  replace HB := hide (F.kept (unhide HB))
  clear F
  have n3 : ¬ k + 2 * (s.un : Int) + (s.kh.length : Int) + (s.pn : Int) + (s.qn : Int) < 0 := by omega
  have c3_15 : w4.cell? ⟨w.heap.size, 15, none⟩ = some (.slice la s.ln lc) := cells_of (unhide HB) 15 _ rfl
  go_wp2_with fail
  clear c3_15
  refine ((unhide h4) _ E4).mono ?_
  rintro e w5 ⟨rfl, F⟩
  have E5 := E4.trans F
  replace HB := hide (F.kept (unhide HB))
  clear F
  have n4 : ¬ k + 2 * (s.un : Int) + (s.kh.length : Int) + (s.pn : Int) + (s.qn : Int) + (s.ln : Int) < 0 := by omega
  have c4_16 : w5.cell? ⟨w.heap.size, 16, none⟩ = some (.slice da s.dn dc) := cells_of (unhide HB) 16 _ rfl
  go_wp2_with fail
  clear c4_16
  refine ((unhide h5) _ E5).mono ?_
  rintro e w6 ⟨rfl, F⟩
  have E6 := E5.trans F
  replace HB := hide (F.kept (unhide HB))
  clear F
  have n5 : ¬ k + 2 * (s.un : Int) + (s.kh.length : Int) + (s.pn : Int) + (s.qn : Int) + (s.ln : Int) + (s.dn : Int) < 0 := by omega
  go_wp2
  go_ret
  exact ⟨congrArg Ending.returned (congrArg (Value.int .i64) (by unfold SS.m; omega)), E6⟩
theorem sesK_held (s : SS) (hz : s.Sz) : HeldOk 11 (fun k => sesK (mkSS k s)) s.m := by
  rintro w v k ⟨u, h, p, q, l, d, rfl, H⟩ h0 h1
  exact heldSession_any s u h p q l d k w H hz h0 h1
end Go.Proofs.YtjfnieodpdklfaaGreatDoor

namespace Go.Proofs.YtjfnieodpdklfaaGreatDoor
open Go.RowKit

/-- No slice. -/
abbrev nilV : Value := .slice none 0 0
theorem noXe : (noX : ByteArray) = { data := #[] } := rfl
/-- A new session. -/
def newS (p : ByteArray) (c r : Int) : SS where
  pr := p
  cols := c
  rows := r
  la := noX
  lb := noX
  lc := noX
  un := 0
  ut := fun _ => noX
  uh := fun _ => noX
  kh := []
  kp := false
  nav := false
  pn := 0
  pt := fun _ => noX
  at9 := 0
  dr := noX
  st := false
  qn := 0
  qt := fun _ => noX
  ln := 0
  lt := fun _ => noX
  dn := 0
  dt := fun _ => noX
theorem row1_nil (w : World) (A : Nat → Value) : Row1At w nilV 0 A := ⟨none, 0, rfl, Nat.le_refl _, fun h => by omega⟩
theorem row2_nil (w : World) (A B : Nat → Value) : Row2At w nilV 0 A B := ⟨none, 0, rfl, Nat.le_refl _, fun h => by omega⟩
theorem newS_own (w : World) (b : Nat) (p : ByteArray) (c r : Int) : OwnSes w b (newS p c r) nilV nilV nilV nilV nilV nilV := by
  have h1 (T : TypeId) (A : Nat → Value) : Own1 w b T nilV 0 A := ⟨[], owns_nil w b T 1, fun j hj => by omega⟩
  refine ⟨⟨[], owns_nil w b _ 2, fun j hj => by exact absurd hj (Nat.not_lt_zero _)⟩, owns_nil w b _ 1, h1 _ _, h1 _ _, h1 _ _, h1 _ _, ?_⟩
  have ha : Apart nilV nilV := fun g hg => by simp [Value.ownBlock] at hg
  simp [ha]
theorem newS_at (w : World) (p : ByteArray) (c r : Int) : SesAt w (newS p c r) nilV nilV nilV nilV nilV nilV := (newS_own w 0 p c r).reads
theorem newS_sz (p : ByteArray) (c r : Int) (h : p.size ≤ 1048576) : (newS p c r).Sz := by
  have h0 : noX.size = 0 := rfl
  constructor <;> first | exact h | (show (0 : Nat) ≤ _; omega) | (show noX.size ≤ _; omega) | (intro j hj; exact absurd hj (Nat.not_lt_zero _))
theorem newS_m (p : ByteArray) (c r : Int) : (newS p c r).m = 0 := rfl
theorem slen_bound (tx : Nat → ByteArray) (b : Nat) (h : ∀ i, (tx i).size ≤ b) : ∀ n, slen tx n ≤ n * b
  | 0 => by simp [slen]
  | n + 1 => by have := slen_bound tx b h n; have := h n; rw [slen, Nat.succ_mul]; omega
theorem SS.blk_slen (s : SS) (hz : s.Sz) (h : sizeB s.cols s.rows = true) : slen s.blk.tx s.blk.n ≤ 7549747200 := by
  have h1 := slen_bound s.blk.tx 75497472 (s.blk_size hz) s.blk.n
  have h2 := (s.blk_lt h).2
  have h3 : s.blk.n * 75497472 ≤ 100 * 75497472 := Nat.mul_le_mul_right _ h2
  omega
/-- What is painted for a session. -/
def SS.paint (s : SS) : List Int := paintL s.blk.n s.blk.tx (s.blk.R : Int) s.blk.C
theorem SS.paint_len (s : SS) (hz : s.Sz) (h : sizeB s.cols s.rows = true) : s.paint.length ≤ 8000000000 := by
  have h1 := paintL_len s.blk.n s.blk.tx (s.blk.R : Int) s.blk.C (by have := (s.blk_lt h).2; omega)
  have h2 := s.blk_slen hz h
  have h3 := (s.blk_lt h).2
  unfold SS.paint
  omega
end Go.Proofs.YtjfnieodpdklfaaGreatDoor
