import Derived.Test.YtmlkpdbfnffoaaaGreatDoorFrmH
set_option maxHeartbeats 8000000
set_option maxRecDepth 10000
set_option linter.unusedSimpArgs false
namespace Go.Proofs.YtmlkpdbfnffoaaaGreatDoor
open Go.RowKit
def LF (X : Nat → Prop) (P B ob : Nat) (W W' : World) : Prop := Fr (fun q => q = P ∨ X q ∨ WS B ob q) W W' ∧ ∀ (k : Nat) (c : Array Value) (T : TypeId) (z : Nat × Nat), W.heap[k]? = some (.cells c T z) → k ≠ P → k ≠ ob → ¬ X k → T ≠ 5 → W'.heap[k]? = some (.cells c T z)
section
variable {X : Nat → Prop} {P B ob : Nat} {W W' W2 : World}
theorem LF.refl (X : Nat → Prop) (P B ob : Nat) (W : World) : LF X P B ob W W := ⟨Fr.refl _ _, fun _ _ _ _ h _ _ _ _ => h⟩
theorem LF.tr (h : LF X P B ob W W') (k : LF X P B ob W' W2) : LF X P B ob W W2 := ⟨h.1.tr k.1, fun i c T z h1 h2 h3 h4 h5 => k.2 i c T z (h.2 i c T z h1 h2 h3 h4 h5) h2 h3 h4 h5⟩
theorem LF.wf (h : LF X P B ob W W') (f : WF B ob W' W2) : LF X P B ob W W2 := ⟨h.1.tr (f.1.mono (fun _ hq => .inr (.inr hq))), fun i c T z h1 h2 h3 h4 h5 => f.keep' (h.2 i c T z h1 h2 h3 h4 h5) (fun e => h3 e.symm) h5⟩
theorem LF.ext (h : LF X P B ob W W') (f : Ext W' W2) : LF X P B ob W W2 := h.wf (WF.of_ext f)
theorem LF.grown {row : Option Nat} (h : LF X P B ob W W') (G : W'.grownBy W2 row) (hB : B ≤ W.heap.size) (hr : ∀ g, row = some g → X g ∨ W.heap.size ≤ g) : LF X P B ob W W2 := by
 refine ⟨h.1.grown G (fun g hg => ?_), fun i c T z h1 h2 h3 h4 h5 => ?_⟩
 ·rcases hr g hg with e | e
  ·exact .inr (.inl e)
  ·exact .inr (.inr (.inr (by omega)))
 ·have h6 := h.2 i c T z h1 h2 h3 h4 h5
  rw [G.block i (Array.getElem?_eq_some_iff.1 h6).1 (fun e => by
   rcases hr i e.symm with e2 | e2
   ·exact h4 e2
   ·have := (Array.getElem?_eq_some_iff.1 h1).1
    omega)]
  exact h6
theorem LF.set (h : LF X P B ob W W') (i : Nat) (v : Value) : LF X P B ob W (W'.setCell ⟨P, i, none⟩ v) := ⟨h.1.setCell (.inl rfl) v, fun k c T z h1 h2 h3 h4 h5 => zat (h.2 k c T z h1 h2 h3 h4 h5) h2⟩
end
theorem zbM {X : Nat → Prop} {P B ob base : Nat} {W W' : World} {v : Value} {n : Nat} {A : Nat → Value} (h : zaD W base 9 v n A) (f : LF X P B ob W W') (hne : ∀ g, v.ownBlock = some g → g ≠ P ∧ g ≠ ob ∧ ¬ X g) : zaD W' base 9 v n A := by
 obtain ⟨ys, ho, hy⟩ := h
 refine ⟨ys, ?_, hy⟩
 obtain ⟨h1, h2⟩ := ho
 refine ⟨h1, ?_⟩
 rcases h2 with h2 | ⟨g, cap, cur, e, h3, h4, h5⟩
 ·exact .inl h2
 ·have h6 := hne g (by rw [e]; rfl)
  exact .inr ⟨g, cap, cur, e, h3, f.2 g _ _ _ h4 h6.1 h6.2.1 h6.2.2 (by decide), h5⟩
theorem zm5 {sc : Array Value} {a0 a1 : Value} {ob qb nb : Nat} {t : List Value} (h : sc.size = 17) (j : Nat) (v : Value) (hj : (#[.func (.func 149) #[] #[.pointer (some ⟨ob, 0, none⟩)], .func (.func 150) #[] #[.pointer (some ⟨nb, 0, none⟩)], .func (.func 151) #[] #[.pointer (some ⟨nb, 0, none⟩)], .func (.func 152) #[] #[.pointer (some ⟨qb, 0, none⟩)], .func (.func 153) #[] #[.pointer (some ⟨ob, 0, none⟩)]] : Array Value)[j]? = some v) : (lvC sc (lvK a0 a1 ob qb nb t))[21 + j]? = some v := by
 rw [show 21 + j = 17 + (4 + j) by omega, zcA h (4 + j)]
 match j, hj with
 | 0, hj => exact hj
 | 1, hj => exact hj
 | 2, hj => exact hj
 | 3, hj => exact hj
 | 4, hj => exact hj
 | j + 5, hj => simp at hj
theorem lvK_dr {sc : Array Value} {a0 a1 x y z : Value} {ob qb nb : Nat} (h : sc.size = 17) (j : Nat) (v : Value) (hj : (#[x, y, z] : Array Value)[j]? = some v) : (lvC sc (lvK a0 a1 ob qb nb [x, y, z]))[26 + j]? = some v := by
 rw [show 26 + j = 17 + (9 + j) by omega, zcA h (9 + j)]
 match j, hj with
 | 0, hj => exact hj
 | 1, hj => exact hj
 | 2, hj => exact hj
 | j + 3, hj => simp at hj
theorem lvK_st {sc : Array Value} {a0 a1 x y z x' y' z' : Value} {ob qb nb : Nat} (h : sc.size = 17) : (lvC sc (lvK a0 a1 ob qb nb [x, y, z])).toList.take 26 ++ #[x', y', z'].toList ++ (lvC sc (lvK a0 a1 ob qb nb [x, y, z])).toList.drop (26 + (#[x', y', z'] : Array Value).size) = (lvC sc (lvK a0 a1 ob qb nb [x', y', z'])).toList := by
 have e : sc.toList.length = 17 := by simpa using h
 simp only [lvC, lvK]
 rw [List.take_append, List.drop_append, e]
 simp [List.take_of_length_le, List.drop_of_length_le, e]
theorem znn (P : Nat) (s : SS) (u h p q l d a0 a1 : Value) (B ob qb nb n base0 : Nat) (tx : Nat → ByteArray) (R C : Int) (bva : Option Addr) (bvc : Nat) (bs : List Int) (W : World)
  (hP : W.heap[P]? = some (.cells (lvC (ze s u h p q l d) (lvK a0 a1 ob qb nb [.slice bva n bvc, .int .i64 R, .int .i64 C])) 88 (0, 0))) (hA : zbb W s u h p q l d) (hpr : s.pr.size ≤ 1048576) (hla : s.la.size ≤ 1048576) (hlb : s.lb.size ≤ 1048576) (hs : zbl s.cols s.rows = true) (hT : zcB W)
  (hW : WrS W B ob qb nb bs) (hbl : bs.length ≤ 1073700000) (hne : P ≠ ob ∧ P ≠ qb ∧ P ≠ nb ∧ P ≠ 3 ∧ P < B) (hb : zaD W base0 9 (.slice bva n bvc) n (fun j => .string (tx j))) (hbP : ∀ g, (Value.slice bva n bvc).ownBlock = some g → g ≠ P ∧ g ≠ ob) (ok1 : bOk n R C) (hn : n ≤ 1048576)
  (same : Bool) (hsame : same = true ↔ zf1 n s.blk.n tx s.blk.tx) (hsl : za4 s.blk.tx s.blk.n ≤ 1048576) :
  Calls Tryz.prog 100 #[.pointer (some ⟨P, 0, none⟩)] W fun e w' => e = .returned (.tuple #[]) ∧ ∃ xa xc, w'.heap[P]? = some (.cells (lvC (ze s u h p q l d) (lvK a0 a1 ob qb nb [.slice xa s.blk.n xc, .int .i64 (s.blk.R : Int), .int .i64 s.blk.C])) 88 (0, 0)) ∧ WrS w' B ob qb nb (bs ++ za8 n R C s.blk.n s.blk.tx (s.blk.R : Int) s.blk.C same) ∧ zaD w' W.heap.size 9 (.slice xa s.blk.n xc) s.blk.n (fun i => .string (s.blk.tx i)) ∧ LF (fun _ => False) P B ob W w' := by
 have hB := zi (zfU s u h p q l d W hA hpr hla hlb hs hT)
 rw [zb3] at hB
 have ok2 := s.blk_ok hs
 have hb100 := (s.blk_lt hs).2
 have hob : ob < W.heap.size := Nat.lt_of_lt_of_le hW.ltb hW.le
 have hPs : P < W.heap.size := zt hP
 have hform := hA.forms
 obtain ⟨ua, uc, ha, hc, pa, pc, qa, qc, la, lc, da, dc, rfl, rfl, rfl, rfl, rfl, rfl⟩ := hform
 have HP := zi hP
 have HW := zi hW
 have HBo := zi hb
 have HNE := zi hne
 have HbP := zi hbP
 clear hP hW hb hne hbP hA hT
 generalize hSC : ze s (.slice ua s.un uc) (.slice ha s.kh.length hc) (.slice pa s.pn pc) (.slice qa s.qn qc) (.slice la s.ln lc) (.slice da s.dn dc) = SC at *
 have z17 : SC.size = 17 := by rw [← hSC]; rfl
 have HZ := zi z17
 clear z17 hSC
 go_enter Tryz.func100, Tryz.ntmps100
 go_wp2_with (refine zbc rfl 40 _ rfl P 0 rfl _ _ SC _ _ (zg HP) zeV Tryz.underlying40 rfl (by rw [zg HZ]; exact zap) ?_)
 refine (zg hB).mono ?_
 rintro e w1 ⟨v1, rfl, o1, F1⟩
 obtain ⟨xa, xc, rfl⟩ := o1.slice
 obtain ⟨V, hV⟩ : ∃ V, V = w1.alloc (.cells #[.slice xa s.blk.n xc, .int .i64 (s.blk.R : Int), .int .i64 s.blk.C] 86) := ⟨_, rfl⟩
 have EV : Ext w1 V := by rw [hV]; exact (Ext.refl _).alloc _
 have HBN : Hid (V.heap[w1.heap.size]? = some (.cells #[.slice xa s.blk.n xc, .int .i64 (s.blk.R : Int), .int .i64 s.blk.C] 86 (0, 0))) := zi (by rw [hV]; exact zn _ _)
 have zV : V.heap.size = w1.heap.size + 1 := by rw [hV]; simp
 have HEV := zi (F1.trans EV)
 have z1 := F1.size
 have HO1 := zi (o1.ext EV)
 replace HP := zi ((zg HEV).kept (zg HP))
 replace HW := zi ((zg HW).on (zg HEV))
 have HV := zi hV
 have hlt1 : Hid (∀ g, (Value.slice xa s.blk.n xc).ownBlock = some g → W.heap.size ≤ g ∧ g < w1.heap.size) := zi (fun g hg => o1.lt g hg)
 clear o1 F1 EV hV hB
 go_upto_region 1 with fail
 rw [← zg HV]
 clear HV
 have hr1 : ∀ X, WF B ob V X → zah X (.slice bva n bvc) n (fun j => .string (tx j)) := fun X hX => (zbM (X := fun _ => False) (P := P) ((zg HBo).ext (zg HEV)) ((LF.refl _ _ _ _ _).wf hX) (fun g hg => ⟨((zg HbP) g hg).1, ((zg HbP) g hg).2, id⟩)).reads
 have hr2 : ∀ X, WF B ob V X → zah X (.slice xa s.blk.n xc) s.blk.n (fun j => .string (s.blk.tx j)) := fun X hX => (zbM (X := fun _ => False) (P := P) (zg HO1) ((LF.refl _ _ _ _ _).wf hX) (fun g hg => by have h1 := (zg hlt1) g hg; exact ⟨by omega, by omega, id⟩)).reads
 have hcR := zi (fun X (hS : WrS X B ob qb nb bs) (hX : WF B ob V X) => zje (.slice bva n bvc) (.slice xa s.blk.n xc) R C (s.blk.R : Int) s.blk.C n s.blk.n tx s.blk.tx ok1 ok2 same hsame B ob qb nb bs X hS hbl (fun Y hY => hr1 Y (hX.tr hY)) (fun Y hY => hr2 Y (hX.tr hY)) hn (by omega) hsl)
 unfold wrV blV at hcR
 refine wp_region_held_drew (S := fun W => W.heap[P]? = some (.cells (lvC SC (lvK a0 a1 ob qb nb [.slice bva n bvc, .int .i64 R, .int .i64 C])) 88 (0, 0)) ∧ W.heap[w1.heap.size]? = some (.cells #[.slice xa s.blk.n xc, .int .i64 (s.blk.R : Int), .int .i64 s.blk.C] 86 (0, 0))) (by kernel_rfl) ⟨zg HP, zg HBN⟩ (fun hHeld => ?_)
 refine wpAnyH_take (i := 0) (v := .pointer (some ⟨P, 0, none⟩)) rfl (by kernel_rfl) (by kernel_rfl) (by kernel_rfl) (fun _ _ _ h => h) (Or.inl ⟨by rfl, ?_⟩) (by assumption) ?_
 ·intro w' hSw; go_simp <;> with_reducible rfl
 simp only [Act.put, q9]
 refine wpAnyH_take (i := 1) (v := .pointer (some ⟨P, 0, none⟩)) rfl (by kernel_rfl) (by kernel_rfl) (by kernel_rfl) (fun _ _ _ h => h) (Or.inl ⟨by rfl, ?_⟩) (by assumption) ?_
 ·intro w' hSw; go_simp <;> with_reducible rfl
 simp only [Act.put, q9]
 refine wpAnyH_take (i := 2) (v := .pointer (some ⟨P, 21, none⟩)) rfl (by kernel_rfl) (by kernel_rfl) (by kernel_rfl) (fun _ _ _ h => h) (Or.inl ⟨by rfl, ?_⟩) (by assumption) ?_
 ·intro w' hSw; go_simp <;> with_reducible rfl
 simp only [Act.put, q9]
 refine tk 3 (.agg #[.func (.func 149) #[] #[.pointer (some ⟨ob, 0, none⟩)], .func (.func 150) #[] #[.pointer (some ⟨nb, 0, none⟩)], .func (.func 151) #[] #[.pointer (some ⟨nb, 0, none⟩)], .func (.func 152) #[] #[.pointer (some ⟨qb, 0, none⟩)], .func (.func 153) #[] #[.pointer (some ⟨ob, 0, none⟩)]]) rfl (by kernel_rfl) (fun _ _ _ h => h) (by rfl) ?_ (by assumption) ?_
 ·intro w' hSw; exact zaT 84 _ rfl P 21 rfl _ _ #[.func (.func 149) #[] #[.pointer (some ⟨ob, 0, none⟩)], .func (.func 150) #[] #[.pointer (some ⟨nb, 0, none⟩)], .func (.func 151) #[] #[.pointer (some ⟨nb, 0, none⟩)], .func (.func 152) #[] #[.pointer (some ⟨qb, 0, none⟩)], .func (.func 153) #[] #[.pointer (some ⟨ob, 0, none⟩)]] _ _ hSw.1 (zm5 (zg HZ)) Tryz.underlying84 rfl zlo
 simp only [Act.put, q9]
 refine wpAnyH_take (i := 4) (v := .pointer (some ⟨P, 0, none⟩)) rfl (by kernel_rfl) (by kernel_rfl) (by kernel_rfl) (fun _ _ _ h => h) (Or.inl ⟨by rfl, ?_⟩) (by assumption) ?_
 ·intro w' hSw; go_simp <;> with_reducible rfl
 simp only [Act.put, q9]
 refine wpAnyH_take (i := 5) (v := .pointer (some ⟨P, 0, none⟩)) rfl (by kernel_rfl) (by kernel_rfl) (by kernel_rfl) (fun _ _ _ h => h) (Or.inl ⟨by rfl, ?_⟩) (by assumption) ?_
 ·intro w' hSw; go_simp <;> with_reducible rfl
 simp only [Act.put, q9]
 refine wpAnyH_take (i := 6) (v := .pointer (some ⟨P, 26, none⟩)) rfl (by kernel_rfl) (by kernel_rfl) (by kernel_rfl) (fun _ _ _ h => h) (Or.inl ⟨by rfl, ?_⟩) (by assumption) ?_
 ·intro w' hSw; go_simp <;> with_reducible rfl
 simp only [Act.put, q9]
 refine tk 7 (.agg #[.slice bva n bvc, .int .i64 R, .int .i64 C]) rfl (by kernel_rfl) (fun _ _ _ h => h) (by rfl) ?_ (by assumption) ?_
 ·intro w' hSw; exact zaT 86 _ rfl P 26 rfl _ _ #[.slice bva n bvc, .int .i64 R, .int .i64 C] _ _ hSw.1 (lvK_dr (zg HZ)) Tryz.underlying86 rfl zdZ
 simp only [Act.put, q9]
 refine tk 8 (.agg #[.slice xa s.blk.n xc, .int .i64 (s.blk.R : Int), .int .i64 s.blk.C]) rfl (by kernel_rfl) (fun _ _ _ h => h) (by rfl) ?_ (by assumption) ?_
 ·intro w' hSw; exact zae 86 _ rfl (w1.heap.size) rfl _ _ _ _ hSw.2 Tryz.underlying86 rfl zdZ
 simp only [Act.put, q9]
 have G := zi ((Ext.refl V).drew)
 generalize V.drew = Y0 at *
 refine rdy 9 (by kernel_rfl) rfl (fun K hK => ?_)
 go_simp
 refine ((zg hcR) _ ((zg HW).on (zg G)) (WF.of_ext (zg G))).mono ?_
 rintro e X1 ⟨rfl, hs9, hf9⟩
 have HWX := zi hs9
 have HFX := zi ((WF.of_ext (B := B) (ob := ob) (zg G)).tr hf9)
 clear hs9 hf9 hHeld
 have hP1 := (zg HFX).keep' (zg HP) (fun e => (zg HNE).1 e.symm) (by decide)
 have hB1 := (zg HFX).keep' (zg HBN) (fun e => by have := hob; omega) (by decide)
 refine hK.out _ _ ⟨hP1, hB1⟩ (fun hHeld => ?_)
 clear hK K
 refine wpAnyH_done (by kernel_rfl) ?_ _
 have HP1 := zi hP1
 have HB1 := zi hB1
 have HLF : Hid (LF (fun _ => False) P B ob W X1) := zi (((LF.refl _ _ _ _ _).ext (zg HEV)).wf (zg HFX))
 have HOX := zi (zbM (X := fun _ => False) (P := P) (zg HO1) ((LF.refl _ _ _ _ _).wf (zg HFX)) (fun g hg => by have h1 := (zg hlt1) g hg; exact ⟨by omega, by omega, id⟩))
 clear hP1 hB1 hcR hHeld
 go_wp2_with (first
  | (refine zm rfl 86 _ rfl (w1.heap.size) rfl _ _ _ _ (zg HB1) Tryz.underlying86 rfl zdZ ?_)
  | (refine zaO rfl 86 _ _ rfl rfl P 26 rfl 88 (lvC SC (lvK a0 a1 ob qb nb [.slice bva n bvc, .int .i64 R, .int .i64 C])) #[.slice xa s.blk.n xc, .int .i64 (s.blk.R : Int), .int .i64 s.blk.C] (lvC SC (lvK a0 a1 ob qb nb [.slice xa s.blk.n xc, .int .i64 (s.blk.R : Int), .int .i64 s.blk.C])) rfl (zg HP1) zdZ (by show 26 + 3 ≤ _; simp [lvC, zg HZ]) (by simp [Value.oneCell']) (lvK_st (zg HZ)) ?_; intro Z hy hf; have HY := zi hy; have FZ := zi hf; clear hy hf))
 refine bodyPost_end (v := .tuple #[]) (by simp [results, Tryz.results100, go_sem]) rfl ⟨rfl, xa, xc, zg HY, (zg HWX).frP (zg FZ) (fun g hg => by subst hg; exact ⟨(zg HNE).1, (zg HNE).2.1, (zg HNE).2.2.1, (zg HNE).2.2.2.1, (zg HNE).2.2.2.2⟩), (zg HOX).fr (zg FZ) (fun g hg e => by have h1 := (zg hlt1) g hg; omega), ?_⟩
 exact ⟨(zg HLF).1.tr ((zg FZ).mono (fun q hq => .inl hq)), fun k c T z h1 h2 h3 h4 h5 => (zg FZ).kept ((zg HLF).2 k c T z h1 h2 h3 h4 h5) (fun e => h2 e)⟩
theorem zke (pv : Value) (g : Int) (hg : g = 0 ∨ g = 1 ∨ g = 2) (W : World) :
  Calls Tryz.prog 99 #[pv, .int .i64 g] W fun e w' => e = .returned (.bool (g != 2)) ∧ w' = W := by
 rcases hg with rfl | rfl | rfl
 all_goals
  go_enter Tryz.func99, Tryz.ntmps99
  go_wp2
 ·exact bodyPost_ret (v := .bool true) (by simp [results, Tryz.results99, go_sem]) rfl ⟨rfl, rfl⟩
 ·exact bodyPost_ret (v := .bool true) (by simp [results, Tryz.results99, go_sem]) rfl ⟨rfl, rfl⟩
 ·exact bodyPost_ret (v := .bool false) (by simp [results, Tryz.results99, go_sem]) rfl ⟨rfl, rfl⟩
theorem zl1 (s : SS) (u h p q l d : Value) (cap : Int) (hv : Value) (hn : Nat) (ht : Nat → ByteArray) (w : World) (hA : zbb w s u h p q l d) (hz : s.Sz) (hH : zah w hv hn (fun j => .string (ht j))) (hHn : hn ≤ 1048576) :
  Calls Tryz.prog 34 #[zaK s u h p q l d, .agg #[.int .i64 cap, hv]] w fun e w' => ∃ P u h p q l d va vc, e = .returned (.pointer (some ⟨P, 0, none⟩)) ∧ w'.heap[P]? = some (.cells (lvC (ze s u h p q l d) (lvH (.int .i64 cap) (.slice va hn vc))) 88 (0, 0)) ∧ zax w' w.heap.size s u h p q l d ∧ zaD w' w.heap.size 9 (.slice va hn vc) hn (fun j => .string (ht j)) ∧ (∀ g, zab u h p q l d g → (Value.slice va hn vc).ownBlock ≠ some g) ∧ w.heap.size ≤ P ∧ ¬ zab u h p q l d P ∧ (Value.slice va hn vc).ownBlock ≠ some P ∧ Ext w w' := by
 have hcC := zi (fun W (hW : Ext w W) => zdK s u h p q l d W (hA.ext hW) hz)
 have hcH := zi (fun W (hW : Ext w W) => zdL cap hv hn ht W (hH.ext hW) hHn)
 obtain ⟨ua, uc, ha, hc, pa, pc, qa, qc, la, lc, da, dc, rfl, rfl, rfl, rfl, rfl, rfl⟩ := hA.forms
 obtain ⟨hva, hvc, rfl, _, _⟩ := hH
 clear hA hz
 obtain ⟨U, hU⟩ : ∃ U, U = (w.alloc (.cells (sC s (.slice ua s.un uc) (.slice ha s.kh.length hc) (.slice pa s.pn pc) (.slice qa s.qn qc) (.slice la s.ln lc) (.slice da s.dn dc)) 40)).alloc (.cells #[.int .i64 cap, .slice hva hn hvc] 41) := ⟨_, rfl⟩
 have E0 : Ext w U := by rw [hU]; exact ((Ext.refl w).alloc _).alloc _
 have HB0 : Hid (U.heap[w.heap.size]? = some (.cells (sC s (.slice ua s.un uc) (.slice ha s.kh.length hc) (.slice pa s.pn pc) (.slice qa s.qn qc) (.slice la s.ln lc) (.slice da s.dn dc)) 40 (0, 0))) := zi (by rw [hU]; exact ((Ext.refl _).alloc _).kept (zn w _))
 have HB1 : Hid (U.heap[w.heap.size + 1]? = some (.cells #[.int .i64 cap, .slice hva hn hvc] 41 (0, 0))) := zi (by rw [hU]; have h := zn (w.alloc (.cells (sC s (.slice ua s.un uc) (.slice ha s.kh.length hc) (.slice pa s.pn pc) (.slice qa s.qn qc) (.slice la s.ln lc) (.slice da s.dn dc)) 40)) (.cells #[.int .i64 cap, .slice hva hn hvc] 41); rw [show (w.alloc (.cells (sC s (.slice ua s.un uc) (.slice ha s.kh.length hc) (.slice pa s.pn pc) (.slice qa s.qn qc) (.slice la s.ln lc) (.slice da s.dn dc)) 40)).heap.size = w.heap.size + 1 by simp] at h; exact h)
 have HU := zi hU
 have HE0 := zi E0
 clear hU E0
 unfold zaK at *
 go_enter Tryz.func34, Tryz.ntmps34
 go_wp2
 rw [← zg HU]
 clear HU
 refine wp_region_held_drew (S := fun W => W.heap[w.heap.size]? = some (.cells (sC s (.slice ua s.un uc) (.slice ha s.kh.length hc) (.slice pa s.pn pc) (.slice qa s.qn qc) (.slice la s.ln lc) (.slice da s.dn dc)) 40 (0, 0)) ∧ W.heap[w.heap.size + 1]? = some (.cells #[.int .i64 cap, .slice hva hn hvc] 41 (0, 0))) (by kernel_rfl) ⟨zg HB0, zg HB1⟩ (fun hHeld => ?_)
 refine tk 0 (.agg (sC s (.slice ua s.un uc) (.slice ha s.kh.length hc) (.slice pa s.pn pc) (.slice qa s.qn qc) (.slice la s.ln lc) (.slice da s.dn dc))) rfl (by kernel_rfl) (fun _ _ _ h => h) (by rfl) ?_ (by assumption) ?_
 ·intro w' hSw; exact zae 40 _ rfl (w.heap.size) rfl _ _ _ _ hSw.1 Tryz.underlying40 rfl zap
 simp only [Act.put, q9]
 refine tk 2 (.agg #[.int .i64 cap, .slice hva hn hvc]) rfl (by kernel_rfl) (fun _ _ _ h => h) (by rfl) ?_ (by assumption) ?_
 ·intro w' hSw; exact zae 41 _ rfl (w.heap.size + 1) rfl _ _ _ _ hSw.2 Tryz.underlying41 rfl zaB
 simp only [Act.put, q9]
 have G0 := zi ((Ext.refl U).drew)
 generalize U.drew = Y0 at *
 refine rdy 1 (by kernel_rfl) rfl (fun K hK => ?_)
 go_simp
 refine ((zg hcC) _ ((zg HE0).trans (zg G0))).mono ?_
 rintro e w4 ⟨u4, h4, p4, q4, l4, d4, rfl, o4, F4⟩
 obtain ⟨u4a, u4c, h4a, h4c, p4a, p4c, q4a, q4c, l4a, l4c, d4a, d4c, rfl, rfl, rfl, rfl, rfl, rfl⟩ := o4.reads.forms
 have HO4 := zi (o4.mono (Nat.le_trans (zg HE0).size (zg G0).size))
 have G4 := Hid.ht G0 F4
 clear o4 F4 G0
 refine hK.out _ _ ⟨(zg G4).kept (zg HB0), (zg G4).kept (zg HB1)⟩ (fun hHeld => ?_)
 clear hK K
 refine rdy 3 (by kernel_rfl) rfl (fun K hK => ?_)
 go_simp
 refine ((zg hcH) _ ((zg HE0).trans (zg G4))).mono ?_
 rintro e w5 ⟨v5, rfl, o5, F5⟩
 obtain ⟨va, vc, rfl⟩ := o5.slice
 have HV5 := zi o5
 have G5 := Hid.ht G4 F5
 have HO5 := zi ((zg HO4).ext F5)
 clear F5 o5
 refine hK.out _ _ ⟨(zg G5).kept (zg HB0), (zg G5).kept (zg HB1)⟩ (fun hHeld => ?_)
 clear hK K
 refine tk 4 ?_ rfl (by kernel_rfl) (fun _ _ _ h => h) (by rfl) ?_ (by assumption) ?_
 rotate_left
 ·intro w' hSw; go_simp <;> with_reducible rfl
 simp only [Act.put, q9]
 refine rdy 5 (by kernel_rfl) rfl (fun K hK => ?_)
 go_simp
 refine hK.out _ _ ⟨((zg G5).alloc _).kept (zg HB0), ((zg G5).alloc _).kept (zg HB1)⟩ (fun hHeld => ?_)
 clear hK K
 refine tk 6 ?_ rfl (by kernel_rfl) (fun _ _ _ h => h) (by rfl) ?_ (by assumption) ?_
 rotate_left
 ·intro w' hSw; go_simp <;> with_reducible rfl
 simp only [Act.put, q9]
 refine wpAnyH_done (by kernel_rfl) ?_ _
 have s1 := (zg HE0).size
 have s4 := (zg G4).size
 have s5 := (zg G5).size
 go_wp2
 go_ret
 have EA := (Ext.refl w5).alloc (.cells (lvC (ze s (.slice u4a s.un u4c) (.slice h4a s.kh.length h4c) (.slice p4a s.pn p4c) (.slice q4a s.qn q4c) (.slice l4a s.ln l4c) (.slice d4a s.dn d4c)) (lvH (.int .i64 cap) (.slice va hn vc))) 88)
 exact ⟨w5.heap.size, _, _, _, _, _, _, va, vc, rfl, zn w5 _, (zg HO5).ext EA, ((zg HV5).ext EA).mono (by omega), fun g hg e => by have h1 := ((zg HO4).foot hg).2; have h2 := ((zg HV5).lt g e).1; omega, by omega, fun hg => by have := ((zg HO5).foot hg).2; omega, fun e => by have := ((zg HV5).lt _ e).2; omega, (zg HE0).trans ((zg G5).trans EA)⟩
end Go.Proofs.YtmlkpdbfnffoaaaGreatDoor
