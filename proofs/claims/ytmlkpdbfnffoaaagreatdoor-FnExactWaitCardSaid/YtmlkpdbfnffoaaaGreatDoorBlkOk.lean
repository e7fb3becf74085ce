import Derived.Test.YtmlkpdbfnffoaaaGreatDoorLayS2
namespace Go.Proofs.YtmlkpdbfnffoaaaGreatDoor
open Go.RowKit
set_option maxHeartbeats 2000000
set_option maxRecDepth 10000
structure BlkD where
 n : Nat
 tx : Nat → ByteArray
 R : Nat
 C : Int
def SS.cs (s : SS) : List (List Int × Int) := zd (baL s.pr) ++ zd (baL s.la) ++ zd (baL s.lb)
def SS.p0 (s : SS) : Nat := (zd (baL s.pr)).length + (zd (baL s.la)).length
def SS.blk (s : SS) : BlkD := { n := zcg s.cs s.cols.toNat s.p0 s.rows.toNat, tx := zgb s.cs s.cols.toNat s.p0 s.rows.toNat, R := zbA s.cs s.cols.toNat s.p0 - zb6 s.cs s.cols.toNat s.p0 s.rows.toNat, C := zbR s.cs s.cols.toNat s.p0 }
theorem SS.blk_lt (s : SS) (h : zbl s.cols s.rows = true) : s.blk.R < s.blk.n ∧ s.blk.n ≤ 100 := by
 obtain ⟨cn, rn, e1, e2, _, _, h1, h2⟩ := zcn h
 have e3 : s.rows.toNat = rn := by omega
 have := zex (cs := s.cs) (cols := s.cols.toNat) (p := s.p0) (rows := s.rows.toNat) (by omega)
 refine ⟨this.1, ?_⟩
 show zcg _ _ _ _ ≤ 100
 unfold zcg
 omega
theorem zfU (s : SS) (u h p q l d : Value) (w : World) (hA : zbb w s u h p q l d) (hpr : s.pr.size ≤ 1048576) (hla : s.la.size ≤ 1048576) (hlb : s.lb.size ≤ 1048576) (hs : zbl s.cols s.rows = true) (hT : zcB w) :
  Calls Tryz.prog 96 #[zaK s u h p q l d] w fun e w' => ∃ v, e = .returned (.agg #[v, .int .i64 (s.blk.R : Int), .int .i64 s.blk.C]) ∧ zaD w' w.heap.size 9 v s.blk.n (fun i => .string (s.blk.tx i)) ∧ Ext w w' := by
 obtain ⟨ua, uc, ha, hc, pa, pc, qa, qc, la, lc, da, dc, rfl, rfl, rfl, rfl, rfl, rfl⟩ := hA.forms
 obtain ⟨R, hR⟩ : ∃ R : Int, R = (s.blk.R : Int) := ⟨_, rfl⟩
 obtain ⟨C, hC⟩ : ∃ C : Int, C = s.blk.C := ⟨_, rfl⟩
 have hcon : Hid (∀ W, Ext w W → Calls Tryz.prog 154 #[.string s.pr, .agg #[.string s.la, .string s.lb, .string s.lc, .slice ua s.un uc], .int .i64 s.cols, .int .i64 s.rows] W fun e w' => ∃ va vc, e = .returned (.agg #[.slice va s.blk.n vc, .int .i64 R, .int .i64 C]) ∧ Hid (zaD w' W.heap.size 9 (.slice va s.blk.n vc) s.blk.n (fun i => .string (s.blk.tx i))) ∧ Ext W w') := by
  refine zi (fun W hW => ?_)
  rw [hR, hC]
  obtain ⟨cn, rn, e1, e2, _, _, h1, _⟩ := zcn hs
  have e3 : s.cols.toNat = cn := by omega
  have e4 : s.rows.toNat = rn := by omega
  have hk := zgJ (baL s.pr) (baL s.la) (baL s.lb) s.lc ua s.un uc cn rn W (by rw [← e1, ← e2]; exact hs) (zau _) (zau _) (zau _) (by rw [zar]; exact hpr) (by rw [zar]; exact hla) (by rw [zar]; exact hlb) (hT.below hW.below)
  rw [zay, zay, zay, ← e1, ← e2] at hk
  refine hk.mono ?_
  rintro e w' ⟨v, rfl, o, F⟩
  obtain ⟨va, vc, rfl⟩ := o.slice
  have hlt := (zex (cs := s.cs) (cols := s.cols.toNat) (p := s.p0) (rows := s.rows.toNat) (by omega)).2
  unfold SS.blk
  dsimp only
  unfold SS.cs SS.p0 at hlt ⊢
  rw [e3, e4] at hlt ⊢
  refine ⟨va, vc, ?_, zi o, F⟩
  rw [Int.ofNat_sub hlt]
 clear hA hpr hla hlb hs
 rw [← hR, ← hC]
 clear hR hC
 obtain ⟨n, hn⟩ : ∃ n, n = s.blk.n := ⟨_, rfl⟩
 obtain ⟨tx, htx⟩ : ∃ tx, tx = s.blk.tx := ⟨_, rfl⟩
 rw [← hn, ← htx] at hcon ⊢
 clear hn htx
 obtain ⟨V, hV⟩ : ∃ V, V = (w.alloc (.cells (sC s (.slice ua s.un uc) (.slice ha s.kh.length hc) (.slice pa s.pn pc) (.slice qa s.qn qc) (.slice la s.ln lc) (.slice da s.dn dc)) 40)).alloc (.cells #[.slice none 0 0, .int .i64 0, .int .i64 0] 86) := ⟨_, rfl⟩
 have E0 : Ext w V := by rw [hV]; exact ((Ext.refl w).alloc _).alloc _
 have sz0 : w.heap.size + 1 + 1 = V.heap.size := by rw [hV]; simp
 have HB1 : Hid (V.heap[w.heap.size + 1]? = some (.cells #[.slice none 0 0, .int .i64 0, .int .i64 0] 86 (0, 0))) := zi (by rw [hV]; have h := zn (w.alloc (.cells (sC s (.slice ua s.un uc) (.slice ha s.kh.length hc) (.slice pa s.pn pc) (.slice qa s.qn qc) (.slice la s.ln lc) (.slice da s.dn dc)) 40)) (.cells #[.slice none 0 0, .int .i64 0, .int .i64 0] 86); rw [show (w.alloc (.cells (sC s (.slice ua s.un uc) (.slice ha s.kh.length hc) (.slice pa s.pn pc) (.slice qa s.qn qc) (.slice la s.ln lc) (.slice da s.dn dc)) 40)).heap.size = w.heap.size + 1 by simp] at h; exact h)
 have HV := zi hV
 clear hV
 unfold zaK
 go_enter Tryz.func96, Tryz.ntmps96
 go_wp2_with fail
 rw [← zg HV]
 clear HV
 refine ((zg hcon) V E0).mono ?_
 rintro e w1 ⟨va, vc, rfl, O1, F1⟩
 replace HB1 := F1.hk HB1
 have b0 := zk (zg HB1) 0 _ rfl
 have b1 := zk (zg HB1) 1 _ rfl
 have b2 := zk (zg HB1) 2 _ rfl
 have f1 : ∀ i, w1.frozen? ⟨w.heap.size + 1, i, none⟩ = false := fun i => Lib.frozen_of_heap (zg HB1) i
 go_wp2
 refine bodyPost_ret (v := .agg #[.slice va n vc, .int .i64 R, .int .i64 C]) (by simp [results, Tryz.results96, go_sem, b0, b1, b2]) rfl ⟨_, rfl, ?_⟩
 refine (fun (U : World) (hU : Fr (fun q => q = w.heap.size + 1) w1 U) => ?_ : ∀ U, Fr (fun q => q = w.heap.size + 1) w1 U → zaD U w.heap.size 9 (.slice va n vc) n (fun i => .string (tx i)) ∧ Ext w U) _ ?_
 ·refine ⟨((zg O1).fr hU (fun g hg e9 => by have := ((zg O1).lt g hg).1; omega)).mono (by omega), hU.ext (E0.trans F1) (fun q hq => by omega)⟩
 ·exact Fr.setCell (S := fun q => q = w.heap.size + 1) (Fr.setCell (S := fun q => q = w.heap.size + 1) (Fr.setCell (S := fun q => q = w.heap.size + 1) (Fr.refl _ _) (a := ⟨w.heap.size + 1, 0, none⟩) rfl _) (a := ⟨w.heap.size + 1, 1, none⟩) rfl _) (a := ⟨w.heap.size + 1, 2, none⟩) rfl _
theorem zjQ (s : SS) (u h p q l d : Value) (w : World) (hA : zbb w s u h p q l d) (hz : s.Sz) (hs : zbl s.cols s.rows = true) (hT : zcB w) :
  Calls Tryz.prog 96 #[zaK s u h p q l d] w fun e w' => ∃ v, e = .returned (.agg #[v, .int .i64 (s.blk.R : Int), .int .i64 s.blk.C]) ∧ zaD w' w.heap.size 9 v s.blk.n (fun i => .string (s.blk.tx i)) ∧ Ext w w' := zfU s u h p q l d w hA hz.pr hz.la hz.lb hs hT
theorem zc1 (s : SS) (u h p q l d : Value) (w : World) (hA : zbb w s u h p q l d) (hpr : s.pr.size ≤ 1048576) (hla : s.la.size ≤ 1048576) (hlb : s.lb.size ≤ 1048576) (hs : zbl s.cols s.rows = true) :
  Calls Tryz.prog 80 #[zaK s u h p q l d] w fun e w' => ∃ v, e = .returned (.agg #[v, .int .i64 (s.blk.R : Int), .int .i64 s.blk.C]) ∧ zaD w' w.heap.size 9 v s.blk.n (fun i => .string (s.blk.tx i)) ∧ Ext w w' := by
 obtain ⟨ua, uc, ha, hc, pa, pc, qa, qc, la, lc, da, dc, rfl, rfl, rfl, rfl, rfl, rfl⟩ := hA.forms
 obtain ⟨R, hR⟩ : ∃ R : Int, R = (s.blk.R : Int) := ⟨_, rfl⟩
 obtain ⟨C, hC⟩ : ∃ C : Int, C = s.blk.C := ⟨_, rfl⟩
 have hcon : Hid (∀ W, Ext w W → Calls Tryz.prog 116 #[.string s.pr, .agg #[.string s.la, .string s.lb, .string s.lc, .slice ua s.un uc], .int .i64 s.cols, .int .i64 s.rows] W fun e w' => ∃ va vc, e = .returned (.agg #[.slice va s.blk.n vc, .int .i64 R, .int .i64 C]) ∧ Hid (zaD w' W.heap.size 9 (.slice va s.blk.n vc) s.blk.n (fun i => .string (s.blk.tx i))) ∧ Ext W w') := by
  refine zi (fun W hW => ?_)
  rw [hR, hC]
  obtain ⟨cn, rn, e1, e2, _, _, h1, _⟩ := zcn hs
  have e3 : s.cols.toNat = cn := by omega
  have e4 : s.rows.toNat = rn := by omega
  have hk := zhe (baL s.pr) (baL s.la) (baL s.lb) s.lc ua s.un uc cn rn W (by rw [← e1, ← e2]; exact hs) (zau _) (zau _) (zau _) (by rw [zar]; exact hpr) (by rw [zar]; exact hla) (by rw [zar]; exact hlb)
  rw [zay, zay, zay, ← e1, ← e2] at hk
  refine hk.mono ?_
  rintro e w' ⟨v, rfl, o, F⟩
  obtain ⟨va, vc, rfl⟩ := o.slice
  have hlt := (zex (cs := s.cs) (cols := s.cols.toNat) (p := s.p0) (rows := s.rows.toNat) (by omega)).2
  unfold SS.blk
  dsimp only
  unfold SS.cs SS.p0 at hlt ⊢
  rw [e3, e4] at hlt ⊢
  refine ⟨va, vc, ?_, zi o, F⟩
  rw [Int.ofNat_sub hlt]
 clear hA hpr hla hlb hs
 rw [← hR, ← hC]
 clear hR hC
 obtain ⟨n, hn⟩ : ∃ n, n = s.blk.n := ⟨_, rfl⟩
 obtain ⟨tx, htx⟩ : ∃ tx, tx = s.blk.tx := ⟨_, rfl⟩
 rw [← hn, ← htx] at hcon ⊢
 clear hn htx
 obtain ⟨V, hV⟩ : ∃ V, V = (w.alloc (.cells (sC s (.slice ua s.un uc) (.slice ha s.kh.length hc) (.slice pa s.pn pc) (.slice qa s.qn qc) (.slice la s.ln lc) (.slice da s.dn dc)) 40)).alloc (.cells #[.slice none 0 0, .int .i64 0, .int .i64 0] 86) := ⟨_, rfl⟩
 have E0 : Ext w V := by rw [hV]; exact ((Ext.refl w).alloc _).alloc _
 have sz0 : w.heap.size + 1 + 1 = V.heap.size := by rw [hV]; simp
 have HB1 : Hid (V.heap[w.heap.size + 1]? = some (.cells #[.slice none 0 0, .int .i64 0, .int .i64 0] 86 (0, 0))) := zi (by rw [hV]; have h := zn (w.alloc (.cells (sC s (.slice ua s.un uc) (.slice ha s.kh.length hc) (.slice pa s.pn pc) (.slice qa s.qn qc) (.slice la s.ln lc) (.slice da s.dn dc)) 40)) (.cells #[.slice none 0 0, .int .i64 0, .int .i64 0] 86); rw [show (w.alloc (.cells (sC s (.slice ua s.un uc) (.slice ha s.kh.length hc) (.slice pa s.pn pc) (.slice qa s.qn qc) (.slice la s.ln lc) (.slice da s.dn dc)) 40)).heap.size = w.heap.size + 1 by simp] at h; exact h)
 have HV := zi hV
 clear hV
 unfold zaK
 go_enter Tryz.func80, Tryz.ntmps80
 go_wp2_with fail
 rw [← zg HV]
 clear HV
 refine ((zg hcon) V E0).mono ?_
 rintro e w1 ⟨va, vc, rfl, O1, F1⟩
 replace HB1 := F1.hk HB1
 have b0 := zk (zg HB1) 0 _ rfl
 have b1 := zk (zg HB1) 1 _ rfl
 have b2 := zk (zg HB1) 2 _ rfl
 have f1 : ∀ i, w1.frozen? ⟨w.heap.size + 1, i, none⟩ = false := fun i => Lib.frozen_of_heap (zg HB1) i
 go_wp2
 refine bodyPost_ret (v := .agg #[.slice va n vc, .int .i64 R, .int .i64 C]) (by simp [results, Tryz.results80, go_sem, b0, b1, b2]) rfl ⟨_, rfl, ?_⟩
 refine (fun (U : World) (hU : Fr (fun q => q = w.heap.size + 1) w1 U) => ?_ : ∀ U, Fr (fun q => q = w.heap.size + 1) w1 U → zaD U w.heap.size 9 (.slice va n vc) n (fun i => .string (tx i)) ∧ Ext w U) _ ?_
 ·refine ⟨((zg O1).fr hU (fun g hg e9 => by have := ((zg O1).lt g hg).1; omega)).mono (by omega), hU.ext (E0.trans F1) (fun q hq => by omega)⟩
 ·exact Fr.setCell (S := fun q => q = w.heap.size + 1) (Fr.setCell (S := fun q => q = w.heap.size + 1) (Fr.setCell (S := fun q => q = w.heap.size + 1) (Fr.refl _ _) (a := ⟨w.heap.size + 1, 0, none⟩) rfl _) (a := ⟨w.heap.size + 1, 1, none⟩) rfl _) (a := ⟨w.heap.size + 1, 2, none⟩) rfl _
abbrev zcE : Value := .slice none 0 0
theorem zhl (tx : Nat → ByteArray) (b : Nat) (h : ∀ i, (tx i).size ≤ b) : ∀ n, za4 tx n ≤ n * b
 | 0 => by simp [za4]
 | n + 1 => by have := zhl tx b h n; have := h n; rw [za4, Nat.succ_mul]; omega
theorem SS.blk_ok (s : SS) (h : zbl s.cols s.rows = true) : bOk s.blk.n (s.blk.R : Int) s.blk.C := by
 obtain ⟨cn, rn, e1, e2, h2, h200, _, _⟩ := zcn h
 have hR := (s.blk_lt h).1
 have hw : zcO s.cs := (((zce (baL s.pr)).app (zce (baL s.la))).app (zce (baL s.lb))).wide
 have hc : s.cols.toNat = cn := by omega
 have hp : s.p0 ≤ s.cs.length := by unfold SS.p0 SS.cs; simp only [List.length_append]; omega
 have hb := zeH (p := s.p0) hw (show 2 ≤ s.cols.toNat by omega) hp
 have hf := zhc (p := s.p0) hw (show 2 ≤ s.cols.toNat by omega) hp
 refine ⟨by omega, by omega, ?_⟩
 show 0 ≤ zbR s.cs s.cols.toNat s.p0 ∧ zbR s.cs s.cols.toNat s.p0 < 200
 unfold zbR
 split
 ·omega
 ·rename_i hn
  have h9 : za5 s.cs s.cols.toNat s.p0 ≠ s.cols.toNat := fun e => hn (hf.2 e)
  omega
end Go.Proofs.YtmlkpdbfnffoaaaGreatDoor
