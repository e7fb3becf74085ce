import Derived.Test.YtinfdhbnljnifaaGreatDoorWhole
import Derived.Test.YtinfdhbnljnifaaGreatDoorShelfW
import Derived.Test.YtinfdhbnljnifaaGreatDoorRows
import Derived.Laws.EntriesVeiled
import Derived.Deep.AppendLies
import Derived.Lib.OwnKind
namespace Go.Proofs.YtinfdhbnljnifaaGreatDoor
open Go.RowKit
abbrev zgk : String := (Rows.fnDrawnRow.named.drop 3).headD ""
theorem gPow : Tryz.prog.globalNamed zgk = some 3 := by kernel_rfl
def zdK (w : World) : Prop := Lib.TabIs Tryz.prog w zgk .u64 Lib.pow10Tab
theorem zdK.keep {w w' : World} (h : zdK w) (hk : w'.heap[3]? = w.heap[3]?) : zdK w' := by
 unfold zdK Lib.TabIs World.var? at h ⊢
 rw [gPow] at h ⊢
 simp only [Option.bind_some] at h ⊢
 rw [hk]
 exact h
theorem zdK.below {w : World} (h : zdK w) {B : Nat} (hB : 3 < B) : Lib.TabBelow Tryz.prog B w zgk .u64 Lib.pow10Tab := fun _ hb => h.keep (hb.block _ hB)
theorem zbH {w w' : World} {k o : Nat} (h : w'.heap[k]? = w.heap[k]?) : w'.cell? ⟨k, o, none⟩ = w.cell? ⟨k, o, none⟩ := by simp [World.cell?, h]
theorem zcj {w w' : World} {k o : Nat} (h : w'.heap[k]? = w.heap[k]?) : w'.frozen? ⟨k, o, none⟩ = w.frozen? ⟨k, o, none⟩ := by simp [World.frozen?, h]
def seqF (ob : Nat) : Value := .func (.func 151) #[] #[.pointer (some ⟨ob, 0, none⟩)]
def anyF (qb : Nat) : Value := .func (.func 153) #[] #[.pointer (some ⟨qb, 0, none⟩)]
def wrV (ob qb nb : Nat) : Value := .agg #[.func (.func 154) #[] #[.pointer (some ⟨ob, 0, none⟩)], .func (.func 155) #[] #[.pointer (some ⟨nb, 0, none⟩)], .func (.func 156) #[] #[.pointer (some ⟨nb, 0, none⟩)], .func (.func 157) #[] #[.pointer (some ⟨qb, 0, none⟩)], .func (.func 158) #[] #[.pointer (some ⟨ob, 0, none⟩)]]
structure WrS (W : World) (B ob qb nb : Nat) (bs : List Int) : Prop where
 out : ∃ v, W.cell? ⟨ob, 0, none⟩ = some v ∧ W.ownsRow B 5 1 v bs.length (bs.map (Value.int .u8))
 hf : W.frozen? ⟨ob, 0, none⟩ = false
 q : W.cell? ⟨qb, 0, none⟩ = some (seqF ob)
 nn : W.cell? ⟨nb, 0, none⟩ = some (anyF qb)
 neq : qb ≠ ob
 nen : nb ≠ ob
 lo : 3 < ob
 ltb : ob < B
 ltq : qb < B
 ltn : nb < B
 le : B ≤ W.heap.size
 tab : zdK W
def WS (B ob : Nat) (g : Nat) : Prop := g = ob ∨ B ≤ g
def WF (B ob : Nat) (w w' : World) : Prop := Fr (WS B ob) w w' ∧ Lib.OthersKept 5 (some ob) w w'
theorem WF.refl (B ob : Nat) (w : World) : WF B ob w w := ⟨Fr.refl _ _, Lib.OthersKept.refl _ _ _⟩
theorem WF.tr {B ob : Nat} {a b c : World} (h : WF B ob a b) (k : WF B ob b c) : WF B ob a c := ⟨h.1.tr k.1, h.2.trans k.2⟩
theorem WF.of_ext {B ob : Nat} {a b : World} (h : Ext a b) : WF B ob a b := ⟨Fr.of_ext h, fun k o hk _ _ => by rw [h.heap (Array.getElem?_eq_some_iff.1 hk).1]; exact hk⟩
theorem WF.grown {B ob : Nat} {a b c : World} {base n : Nat} {v : Value} {xs : List Value} (h : WF B ob a b) (hg : b.grownBy c v.ownBlock) (ho : b.ownsRow base 5 1 v n xs) (hb : B ≤ base) : WF B ob a c :=
 ⟨h.1.grown hg (fun k hk => .inr (Nat.le_trans hb (ho.lt k hk).1)), h.2.grown hg (Lib.ownsRow_kind ho)⟩
theorem WF.of_below {B ob : Nat} {a b : World} (h : Below B a b) (hk : Lib.OthersKept 5 none a b) : WF B ob a b :=
 ⟨⟨h.os, h.tape, h.output, h.size, fun i _ hn => h.block i (Nat.lt_of_not_le fun e => hn (.inr e))⟩, fun k o h1 _ h3 => hk k o h1 (by simp) h3⟩
theorem WF.setCell {B ob : Nat} {a b : World} (h : WF B ob a b) (v : Value) : WF B ob a (b.setCell ⟨ob, 0, none⟩ v) := ⟨h.1.setCell (.inl rfl) v, h.2.setCell _ rfl v⟩
theorem WrS.next {W W' : World} {B ob qb nb : Nat} {bs bs' : List Int} {v' : Value} (h : WrS W B ob qb nb bs) (hF : WF B ob W W') (hc : W'.cell? ⟨ob, 0, none⟩ = some v') (hz : W'.frozen? ⟨ob, 0, none⟩ = false)
  (ho : W'.ownsRow B 5 1 v' bs'.length (bs'.map (Value.int .u8))) : WrS W' B ob qb nb bs' := by
 have hl := h.le
 have hb := h.ltb
 have hlo := h.lo
 refine ⟨⟨v', hc, ho⟩, hz, ?_, ?_, h.neq, h.nen, h.lo, h.ltb, h.ltq, h.ltn, Nat.le_trans hl hF.1.size, h.tab.keep (hF.1.block _ (by omega) (fun e => ?_))⟩
 ·have := h.ltq
  have hne := h.neq
  rw [zbH (hF.1.block _ (by omega) (fun e => by rcases e with e | e <;> omega))]
  exact h.q
 ·have := h.ltn
  have hne := h.nen
  rw [zbH (hF.1.block _ (by omega) (fun e => by rcases e with e | e <;> omega))]
  exact h.nn
 ·rcases e with e | e <;> omega
theorem WrS.on {W W' : World} {B ob qb nb : Nat} {bs : List Int} (h : WrS W B ob qb nb bs) (hE : Ext W W') : WrS W' B ob qb nb bs := by
 obtain ⟨v, hc, ho⟩ := h.out
 have hl := h.le
 have hb := h.ltb
 exact h.next (WF.of_ext hE) (hE.cell hc) (by rw [zcj (hE.heap (by omega))]; exact h.hf) (hE.owns ho)
theorem WrS.put {W W' : World} {B ob qb nb : Nat} {bs bs' : List Int} {u v' : Value} (h : WrS W B ob qb nb bs) (hF : WF B ob W W') (hc : W'.cell? ⟨ob, 0, none⟩ = some u) (hz : W'.frozen? ⟨ob, 0, none⟩ = false)
  (ho : W'.ownsRow B 5 1 v' bs'.length (bs'.map (Value.int .u8))) : WrS (W'.setCell ⟨ob, 0, none⟩ v') B ob qb nb bs' ∧ WF B ob W (W'.setCell ⟨ob, 0, none⟩ v') := by
 have hF2 := hF.setCell v'
 refine ⟨h.next (v' := v') hF2 (World.cell?_setCell_same _ _ _ hc) (by simpa using hz) (zbW ho (fun e => ?_) _), hF2⟩
 have h1 := (ho.lt _ e).1
 have h2 := h.ltb
 simp at h1
 omega
theorem zeB {xs : List Int} (h : zv xs) : Lib.strCells (zo xs) = xs.map (Value.int .u8) := by
 unfold Lib.strCells
 rw [za9, List.map_map]
 apply List.map_congr_left
 intro x hx
 have := h x hx
 simp
 omega
theorem zgI (l : List UInt8) : Lib.byteCells l = (l.map (fun b => ((b.toNat : Nat) : Int))).map (Value.int .u8) := by
 unfold Lib.byteCells
 rw [List.map_map]
 rfl
set_option maxRecDepth 10000 in
set_option maxHeartbeats 1000000 in
theorem zg2 (w : World) (hlo : 3 < w.heap.size) (hT : zdK w) :
  Calls Tryz.prog 80 #[] w fun e w' => ∃ ob qb nb, e = .returned (wrV ob qb nb) ∧ WrS w' w'.heap.size ob qb nb [] ∧ (w.heap.size ≤ ob ∧ w.heap.size ≤ qb ∧ w.heap.size ≤ nb) ∧ Ext w w' := by
 go_enter Tryz.func80, Tryz.ntmps80
 go_wp2
 refine bodyPost_ret (v := wrV (w.heap.size + 1) (w.heap.size + 1 + 1) (w.heap.size + 1 + 1 + 1)) (by simp [results, Tryz.results80, go_sem, wrV]) rfl ⟨_, _, _, rfl, ?_, ⟨by omega, by omega, by omega⟩, ?_⟩
 ·refine ⟨⟨.slice none 0 0, by simp [go_sem], ⟨rfl, .inl ⟨rfl, rfl⟩⟩⟩, by simp [go_sem], by simp [go_sem, seqF], by simp [go_sem, anyF], by omega, by omega, by omega, by simp, by simp, by simp, Nat.le_refl _, hT.keep ?_⟩
  exact ((((Ext.refl w).alloc _).alloc _).alloc _).alloc _ |>.heap hlo
 ·exact ((((Ext.refl w).alloc _).alloc _).alloc _).alloc _
theorem zcQ (w : World) (hlo : 3 < w.heap.size) (hT : zdK w) :
  Calls Tryz.prog 80 #[] w fun e w' => ∃ ob qb nb, e = .returned (wrV ob qb nb) ∧ WrS w' w'.heap.size ob qb nb [] ∧ w.heap.size ≤ ob ∧ Ext w w' :=
 (zg2 w hlo hT).mono (fun _ _ ⟨ob, qb, nb, h1, h2, h3, h4⟩ => ⟨ob, qb, nb, h1, h2, h3.1, h4⟩)
theorem zjW : ∃ i, Tryz.prog.info? 5 = some i ∧ i.zero = some (.int .u8 0) ∧ i.size = 1 ∧ i.bytes = 1 := info_parts zkT
theorem zeM {w w' : World} {row : Option Nat} (hg : w.grownBy w' row) {k : Nat} (hk : k < w.heap.size) (hn : row ≠ some k) : w'.heap[k]? = w.heap[k]? := hg.block k hk (fun e => hn e.symm)
set_option maxRecDepth 10000 in
set_option maxHeartbeats 1000000 in
theorem zgv (xs : List Int) (hx : zv xs) (B ob qb nb : Nat) (bs : List Int) (w : World) (h : WrS w B ob qb nb bs) (hl : bs.length + xs.length ≤ 1099511627776) :
  Calls Tryz.prog 154 #[.string (zo xs), .pointer (some ⟨ob, 0, none⟩)] w fun e w' => e = .returned (.tuple #[]) ∧ WrS w' B ob qb nb (bs ++ xs) ∧ WF B ob w w' := by
 obtain ⟨i0, hi, hz0, hz1, hz2⟩ := zjW
 obtain ⟨v, hc, ho⟩ := h.out
 obtain ⟨ao, cap, hv, _⟩ := id (zz ho)
 have HV := zh hv
 subst hv
 have hle := h.le
 have hlt := h.ltb
 have hfz := h.hf
 have HO := zh ho
 have HS := zh h
 have hsz := zai xs
 have hrow : ∀ k, (Value.slice ao bs.length cap).ownBlock = some k → B ≤ k := fun k hk => (ho.lt k hk).1
 have HR := zh hrow
 clear ho h hrow HV
 go_enter Tryz.func154, Tryz.ntmps154
 go_wp2_with (at_builtin; go_must (refine Lib.wpList_append_own_string _ rfl _ _ 22 9 rfl B 5 i0 Tryz.underlying22 Tryz.underlying9 hi hz0 hz1 hz2 _ _ _ rfl (zu HO) (zo xs) rfl (by rw [hsz]; unfold maxLen; omega) (by rw [hsz]; omega) hle ?_); intro v2 w1 ho1 hg1 hq1; rw [hsz, zeB hx, ← List.map_append, ← List.length_append] at ho1; obtain ⟨ao2, cap2, hv2, _⟩ := id (zz ho1); subst hv2; have hb1 := zeM hg1 (k := ob) (by omega) (fun e => by have := (zu HR) _ e; omega); have c1 := (zbH (o := 0) hb1).trans hc; have f1 := (zcj (o := 0) hb1).trans hfz; have HO1 := zh ho1; have HG1 := zh hg1; clear ho1 hg1 hq1 hb1)
 rw [← List.length_append]
 obtain ⟨hS, hF⟩ := (zu HS).put ((WF.refl _ _ _).grown (zu HG1) (zu HO) (Nat.le_refl _)) c1 f1 (zu HO1)
 exact bodyPost_end (v := .tuple #[]) (by simp [results, Tryz.results154, go_sem]) rfl ⟨rfl, hS, hF⟩
set_option maxRecDepth 10000 in
theorem zhV (B ob n : Nat) (i : Int) (h0 : 0 < i) (h1 : i ≤ 9223372036854775807) (sv : Value) (bs : List Int) (w : World) (hn : n = bs.length) (hown : w.ownsRow B 5 1 sv n (bs.map (Value.int .u8))) (hBw : B ≤ w.heap.size) (hlim : n + 21 ≤ 140737488355328) (hT : zdK w) (hB : 3 < B) :
  Calls Tryz.prog 152 #[sv, .int .i64 i, .int .i64 10] w fun e w' => ∃ ao cap, e = .returned (.slice ao (bs ++ dg i.toNat).length cap) ∧ w'.ownsRow B 5 1 (.slice ao (bs ++ dg i.toNat).length cap) (bs ++ dg i.toNat).length ((bs ++ dg i.toNat).map (Value.int .u8)) ∧ WF B ob w w' ∧ (ob < B → w'.heap[ob]? = w.heap[ob]?) := by
 subst hn
 have hc := Any.strconv_AppendInt_10 Tryz.lays176 B bs.length i (by omega) h1 sv (bs.map (Value.int .u8)) w hown hBw hlim (hT.below hB)
 refine Calls.mono hc ?_
 rintro e w' ⟨v', rfl, ho, hb, hk⟩
 rw [zgI, zmb i h0, ← List.map_append, show bs.length + (Lib.itoa i).length = (bs ++ dg i.toNat).length by rw [List.length_append, ← zmb i h0]; simp] at ho
 obtain ⟨ao, cap, hv, _⟩ := id (zz ho)
 subst hv
 exact ⟨ao, cap, rfl, ho, WF.of_below hb hk, fun h => hb.block ob h⟩
set_option maxRecDepth 10000 in
set_option maxHeartbeats 2000000 in
theorem zl8 (n c : Int) (h0 : 0 < n) (h1 : n ≤ 99999999) (B ob qb nb : Nat) (bs : List Int) (w : World) (h : WrS w B ob qb nb bs) (hl : bs.length ≤ 1099511627776) :
  Calls Tryz.prog 151 #[.int .i64 n, .int .u8 c, .pointer (some ⟨ob, 0, none⟩)] w fun e w' => e = .returned (.tuple #[]) ∧ WrS w' B ob qb nb (bs ++ goL n c) ∧ WF B ob w w' := by
 obtain ⟨i0, hi, hz0, hz1, hz2⟩ := zjW
 have hgo : Hid (bs ++ goL n c = ((bs ++ [27, 91]) ++ dg n.toNat) ++ [c]) := by refine zh ?_; rw [goL, if_neg (by omega)]; simp
 have hdl := zfg 8 n.toNat (by omega)
 obtain ⟨v, hc, ho⟩ := h.out
 obtain ⟨ao, cap, hv, _⟩ := id (zz ho)
 subst hv
 have hle := h.le
 have hlt := h.ltb
 have hfz := h.hf
 have HO := zh ho
 have HS := zh h
 have hrow : ∀ k, (Value.slice ao bs.length cap).ownBlock = some k → B ≤ k := fun k hk => (ho.lt k hk).1
 have HR := zh hrow
 clear ho h hrow
 go_enter Tryz.func151, Tryz.ntmps151
 go_wp2_with (at_builtin; go_must (refine wpList_append_lies _ rfl _ _ 22 rfl B 5 i0 (.int .u8 0) 1 1 Tryz.underlying22 hi hz0 hz1 hz2 rfl (by decide) _ _ _ rfl ((zu HO).alloc _) ⟨w.heap.size, 0, none⟩ 2 2 (([27, 91] : List Int).map (Value.int .u8)) rfl rfl (zbs _ _) (ints_oneCell _ _) (by decide) (by unfold maxLen; omega) (by omega) (by simp; omega) _ rfl ?_); intro g1 cap1 w1 ho1 hg1 hq1 hz1; rw [← List.map_append, show bs.length + 2 = (bs ++ [27, 91]).length by simp] at ho1; have hb1 := zeM hg1 (k := ob) (by simp; omega) (fun e => by have := (zu HR) _ e; omega); have hb0 := hb1.trans (((Ext.refl w).alloc _).heap (by omega)); have c1 := (zbH (o := 0) hb0).trans hc; have f1 := (zcj (o := 0) hb0).trans hfz; obtain ⟨hS1, hF1⟩ := (zu HS).put ((WF.of_ext ((Ext.refl w).alloc _)).grown hg1 ((zu HO).alloc _) (Nat.le_refl _)) c1 f1 ho1; have HS1 := zh hS1; have HF1 := zh hF1; clear ho1 hg1 hq1 hz1 hb1 hb0 hS1 hF1)
 obtain ⟨W1, hW1⟩ : ∃ W1, W1 = w1.setCell ⟨ob, 0, none⟩ (.slice (some ⟨g1, 0, none⟩) (bs.length + 2) cap1) := ⟨_, rfl⟩
 have hn3 : (bs ++ ([27, 91] : List Int)).length = bs.length + 2 := by simp
 rw [hn3, ← hW1] at HS1 HF1
 rw [← hW1]
 have c2 : W1.cell? ⟨ob, 0, none⟩ = some (.slice (some ⟨g1, 0, none⟩) (bs.length + 2) cap1) := by rw [hW1]; exact World.cell?_setCell_same _ _ _ c1
 clear hW1 c1 f1
 obtain ⟨v1, hc1, ho1⟩ := (zu HS1).out
 obtain rfl := Option.some.inj (c2.symm.trans hc1)
 have hn2 : bs.length + 2 = (bs ++ [27, 91]).length := by simp
 refine (zhV B ob (bs.length + 2) n h0 (by omega) _ (bs ++ [27, 91]) W1 hn2 (by rw [hn2] at ho1 ⊢; exact ho1) (zu HS1).le (by omega) (zu HS1).tab (by have := (zu HS1).lo; omega)).mono ?_
 rintro e w2 ⟨ao2, cap2, rfl, ho2, hb2, hkk⟩
 have hk2 := hkk hlt
 have c3 := (zbH (o := 0) hk2).trans c2
 have f3 := (zcj (o := 0) hk2).trans (zu HS1).hf
 have hl2 : (bs ++ ([27, 91] : List Int) ++ dg n.toNat).length ≤ 1099511627800 := by simp only [List.length_append, List.length_cons, List.length_nil]; omega
 obtain ⟨L, hL⟩ : ∃ L, L = bs ++ ([27, 91] : List Int) ++ dg n.toNat := ⟨_, rfl⟩
 rw [← hL] at ho2 hl2 ⊢
 have HL := zh hL
 clear hL
 obtain ⟨m, hm⟩ : ∃ m, m = L.length := ⟨_, rfl⟩
 obtain ⟨hS2, hF2⟩ := (zu HS1).put hb2 c3 f3 ho2
 rw [← hm] at hS2 hF2 hl2 ⊢
 have HM := zh hm
 clear hm
 have HF2 := zh ((zu HF1).tr hF2)
 have hE2 : ∀ o, WF B ob (w2.setCell ⟨ob, 0, none⟩ (.slice ao2 m cap2)) ((w2.setCell ⟨ob, 0, none⟩ (.slice ao2 m cap2)).alloc o) := fun o => WF.of_ext ((Ext.refl _).alloc o)
 have HE2 := zh hE2
 have c4 := World.cell?_setCell_same _ _ (.slice ao2 m cap2) c3
 obtain ⟨v4, hv4, ho4⟩ := hS2.out
 obtain rfl := Option.some.inj (c4.symm.trans hv4)
 have HS2 := zh hS2
 have hle2 := hS2.le
 rw [World.size_setCell] at hle2
 have f4 := hS2.hf
 have hrow2 : ∀ k, (Value.slice ao2 m cap2).ownBlock = some k → B ≤ k := fun k hk => (ho4.lt k hk).1
 have HR2 := zh hrow2
 rw [← zu HM] at ho4
 have HO4 := zh ho4
 have HC4 := zh c4
 have HF4 := zh f4
 clear ho2 hS2 hF2 hE2 hv4 ho4 hrow2 hc1 ho1 c2 hb2 hk2 hkk c4 f4 HO HS HR HS1 HF1 hn2 hn3
 go_wp2_with (at_builtin; go_must (refine wpList_append_lies _ rfl _ _ 22 rfl B 5 i0 (.int .u8 0) 1 1 Tryz.underlying22 hi hz0 hz1 hz2 rfl (by decide) _ _ _ rfl ((zu HO4).alloc _) ⟨w2.heap.size, 0, none⟩ 1 1 (([c] : List Int).map (Value.int .u8)) rfl rfl (by intro j u hu; cases j with | zero => (simp at hu; subst hu; simp [go_sem]) | succ j => simp at hu) (ints_oneCell _ _) (by decide) (by unfold maxLen; omega) (by omega) (by simp; omega) _ rfl ?_); intro g5 cap5 w5 ho5 hg5 hq5 hz5; rw [← List.map_append, show m + 1 = (L ++ [c]).length by rw [zu HM]; simp] at ho5; have hb5 := zeM hg5 (k := ob) (by simp; omega) (fun e => by have := (zu HR2) _ e; omega); have hb6 := hb5.trans (((Ext.refl (w2.setCell ⟨ob, 0, none⟩ (.slice ao2 m cap2))).alloc _).heap (by simp; omega)); have c5 := (zbH (o := 0) hb6).trans (zu HC4); have f5 := (zcj (o := 0) hb6).trans (zu HF4); obtain ⟨hS5, hF5⟩ := (zu HS2).put (((zu HE2) _).grown hg5 ((zu HO4).alloc _) (Nat.le_refl _)) c5 f5 ho5; have HS5 := zh hS5; have HF5 := zh hF5; clear ho5 hg5 hq5 hz5 hb5 hb6 hS5 hF5)
 rw [show m + 1 = (L ++ [c]).length by rw [zu HM]; simp]
 refine bodyPost_end (v := .tuple #[]) (by simp [results, Tryz.results151, go_sem]) rfl ⟨rfl, ?_, (zu HF2).tr (zu HF5)⟩
 rw [zu hgo, ← zu HL]
 exact zu HS5
def RB (w : World) (base : Nat) (v : Value) (L : List Int) : Prop := zx w .u8 v L ∧ ∀ g, v.ownBlock = some g → base ≤ g ∧ g < w.heap.size
theorem RB.ext {w w' : World} {base : Nat} {v : Value} {L : List Int} (h : RB w base v L) (he : Ext w w') : RB w' base v L := ⟨h.1.ext he, fun g hg => ⟨(h.2 g hg).1, Nat.lt_of_lt_of_le (h.2 g hg).2 he.size⟩⟩
theorem RB.fr {S : Nat → Prop} {w w' : World} {base : Nat} {v : Value} {L : List Int} (h : RB w base v L) (hf : Fr S w w') (hS : ∀ g, v.ownBlock = some g → ¬ S g) : RB w' base v L := by
 refine ⟨?_, fun g hg => ⟨(h.2 g hg).1, Nat.lt_of_lt_of_le (h.2 g hg).2 hf.size⟩⟩
 obtain ⟨⟨ao, cap, rfl, hc, hx⟩, hl⟩ := h
 refine ⟨ao, cap, rfl, hc, fun hp => ?_⟩
 obtain ⟨b, off, rfl, hcell⟩ := hx hp
 refine ⟨b, off, rfl, fun j hj => ?_⟩
 rw [zbH (hf.block b (hl b rfl).2 (hS b rfl))]
 exact hcell j hj
set_option maxRecDepth 10000 in
set_option maxHeartbeats 1000000 in
theorem zmi (n c : Int) (h1 : n ≤ 99999999) (B ob qb nb : Nat) (bs : List Int) (w : World) (h : WrS w B ob qb nb bs) (hl : bs.length ≤ 1099511627776) :
  Calls Tryz.prog 153 #[.int .i64 n, .int .u8 c, .pointer (some ⟨qb, 0, none⟩)] w fun e w' => e = .returned (.tuple #[]) ∧ WrS w' B ob qb nb (bs ++ goL n c) ∧ WF B ob w w' := by
 have HS := zh h
 have hq := h.q
 unfold seqF at hq
 clear h
 by_cases h0 : 0 < n
 ·have hcon := zh (zl8 n c h0 h1 B ob qb nb bs w (zu HS) hl)
  go_enter Tryz.func153, Tryz.ntmps153
  go_wp2_with fail
  refine (zu hcon).mono ?_
  rintro e w1 ⟨rfl, h1, h2⟩
  have H1 := zh h1
  have H2 := zh h2
  clear h1 h2
  go_wp2
  exact bodyPost_end (v := .tuple #[]) (by simp [results, Tryz.results153, go_sem]) rfl ⟨rfl, zu H1, zu H2⟩
 ·have hg : Hid (bs ++ goL n c = bs) := by refine zh ?_; rw [goL, if_pos (by omega)]; simp
  go_enter Tryz.func153, Tryz.ntmps153
  go_wp2
  exact bodyPost_end (v := .tuple #[]) (by simp [results, Tryz.results153, go_sem]) rfl ⟨rfl, by rw [zu hg]; exact zu HS, WF.refl _ _ _⟩
set_option maxRecDepth 10000 in
set_option maxHeartbeats 1000000 in
theorem zlE (n : Int) (h1 : n ≤ 99999999) (B ob qb nb : Nat) (bs : List Int) (w : World) (h : WrS w B ob qb nb bs) (hl : bs.length ≤ 1099511627776) :
  Calls Tryz.prog 155 #[.int .i64 n, .pointer (some ⟨nb, 0, none⟩)] w fun e w' => e = .returned (.tuple #[]) ∧ WrS w' B ob qb nb (bs ++ goL n 65) ∧ WF B ob w w' := by
 have hcon := zh (zmi n 65 h1 B ob qb nb bs w h hl)
 have hq := h.nn
 unfold anyF at hq
 clear h
 go_enter Tryz.func155, Tryz.ntmps155
 go_wp2_with fail
 refine (zu hcon).mono ?_
 rintro e w1 ⟨rfl, h1, h2⟩
 have H1 := zh h1
 have H2 := zh h2
 clear h1 h2
 go_wp2
 exact bodyPost_end (v := .tuple #[]) (by simp [results, Tryz.results155, go_sem]) rfl ⟨rfl, zu H1, zu H2⟩
set_option maxRecDepth 10000 in
set_option maxHeartbeats 1000000 in
theorem znM (n : Int) (h1 : n ≤ 99999999) (B ob qb nb : Nat) (bs : List Int) (w : World) (h : WrS w B ob qb nb bs) (hl : bs.length ≤ 1099511627776) :
  Calls Tryz.prog 156 #[.int .i64 n, .pointer (some ⟨nb, 0, none⟩)] w fun e w' => e = .returned (.tuple #[]) ∧ WrS w' B ob qb nb (bs ++ goL n 66) ∧ WF B ob w w' := by
 have hcon := zh (zmi n 66 h1 B ob qb nb bs w h hl)
 have hq := h.nn
 unfold anyF at hq
 clear h
 go_enter Tryz.func156, Tryz.ntmps156
 go_wp2_with fail
 refine (zu hcon).mono ?_
 rintro e w1 ⟨rfl, h1, h2⟩
 have H1 := zh h1
 have H2 := zh h2
 clear h1 h2
 go_wp2
 exact bodyPost_end (v := .tuple #[]) (by simp [results, Tryz.results156, go_sem]) rfl ⟨rfl, zu H1, zu H2⟩
set_option maxRecDepth 10000 in
set_option maxHeartbeats 1000000 in
theorem zhm (n : Int) (h0 : 0 ≤ n) (h1 : n ≤ 9999999) (B ob qb nb : Nat) (bs : List Int) (w : World) (h : WrS w B ob qb nb bs) (hl : bs.length ≤ 1099511627776) :
  Calls Tryz.prog 157 #[.int .i64 n, .pointer (some ⟨qb, 0, none⟩)] w fun e w' => e = .returned (.tuple #[]) ∧ WrS w' B ob qb nb (bs ++ goL (n + 1) 71) ∧ WF B ob w w' := by
 have hcon := zh (zl8 (n + 1) 71 (by omega) (by omega) B ob qb nb bs w h hl)
 have hq := h.q
 unfold seqF at hq
 clear h
 go_enter Tryz.func157, Tryz.ntmps157
 go_wp2_with fail
 refine (zu hcon).mono ?_
 rintro e w1 ⟨rfl, h1, h2⟩
 have H1 := zh h1
 have H2 := zh h2
 clear h1 h2
 go_wp2
 exact bodyPost_end (v := .tuple #[]) (by simp [results, Tryz.results157, go_sem]) rfl ⟨rfl, zu H1, zu H2⟩
set_option maxRecDepth 10000 in
set_option maxHeartbeats 1000000 in
theorem zbq (B ob qb nb : Nat) (bs : List Int) (w : World) (h : WrS w B ob qb nb bs) :
  Calls Tryz.prog 158 #[.pointer (some ⟨ob, 0, none⟩)] w fun e w' => ∃ v, e = .returned v ∧ w.ownsRow B 5 1 v bs.length (bs.map (Value.int .u8)) ∧ w' = w := by
 obtain ⟨v, hc, ho⟩ := h.out
 obtain ⟨ao, cap, hv, _⟩ := id (zz ho)
 subst hv
 have HO := zh ho
 clear ho h
 go_enter Tryz.func158, Tryz.ntmps158
 go_wp2
 go_ret
 exact ⟨_, rfl, zu HO, rfl⟩
theorem znO (l : List UInt8) : l.map ((fun n : Int => UInt8.ofNat n.toNat) ∘ fun b => ((b.toNat : Nat) : Int)) = l := by
 induction l with
 | nil => rfl
 | cons b l ih => rw [List.map_cons, ih]; simp
theorem zov (v : Value) (n : Nat) (tx : Nat → ByteArray) (w : World) (hv : zam w v n (fun j => .string (tx j))) (hn : n ≤ 1048576) (hs : zgE tx n ≤ 274877906944) :
  Calls Tryz.prog 159 #[v, .string ⟨#[13, 10]⟩] w fun e w' => e = .returned (.string (zo (zcb tx n))) ∧ Ext w w' := by
 have hj := zic tx n
 have hL : (Lib.join (((List.range n).map tx).map (fun x => x.data.toList)) [13, 10]).length = (zcb tx n).length := by rw [← hj]; simp
 have hlen := zej tx n
 have hret : zo (zcb tx n) = ⟨(Lib.join (((List.range n).map tx).map (fun x => x.data.toList)) [13, 10]).toArray⟩ := by
  apply WideShapes.bytes_inj
  rw [za9, ← hj, List.map_map, znO]
 obtain ⟨ao, cap, rfl, hcap, hc⟩ := hv
 by_cases h0 : n = 0
 ·subst h0
  refine (Any.strings_Join_none Tryz.lays156 Tryz.Builder_Extra_156 ao cap _ w).mono ?_
  rintro e w' ⟨rfl, rfl⟩
  refine ⟨?_, Ext.refl _⟩
  rw [hret]
  rfl
 ·obtain ⟨b, o, rfl, hc'⟩ := hc (by omega)
  have hlt := zaj (hc' 0 (by omega))
  have hJ := Any.strings_Join Tryz.lays156 Tryz.Builder_Extra_156 b o cap ((List.range n).map tx) ⟨#[13, 10]⟩ w (fun j x hx => by
   rw [List.getElem?_map] at hx
   by_cases hjn : j < n
   ·rw [List.getElem?_range hjn] at hx
    simp at hx
    subst hx
    exact hc' j hjn
   ·rw [List.getElem?_eq_none (by simp; omega)] at hx
    simp at hx) hlt (by simp; omega) (by simp; omega) (by show (Lib.join _ [13, 10]).length ≤ _; rw [hL]; omega)
  rw [List.length_map, List.length_range] at hJ
  refine Calls.mono hJ ?_
  rintro e w' ⟨rfl, hb⟩
  refine ⟨?_, Ext.of_below hb⟩
  rw [hret]
def ziS (W : World) (p ob qb nb : Nat) (v : Value) (row col : Int) : Prop :=
 W.heap[p]? = some (.cells (wrV ob qb nb).cells 111 (0, 0)) ∧ W.heap[p + 1]? = some (.cells (blV v row col).cells 46 (0, 0))
theorem ziS.wf {W W' : World} {p B ob qb nb : Nat} {v : Value} {row col : Int} (h : ziS W p ob qb nb v row col) (hF : WF B ob W W') (hp : ob < p) : ziS W' p ob qb nb v row col :=
 ⟨hF.2 _ _ h.1 (by simp; omega) (fun c fz e => by simp at e), hF.2 _ _ h.2 (by simp; omega) (fun c fz e => by simp at e)⟩
theorem ziS.ext {W W' : World} {p ob qb nb : Nat} {v : Value} {row col : Int} (h : ziS W p ob qb nb v row col) (hE : Ext W W') : ziS W' p ob qb nb v row col :=
 ⟨(hE.heap (Array.getElem?_eq_some_iff.1 h.1).1).trans h.1, (hE.heap (Array.getElem?_eq_some_iff.1 h.2).1).trans h.2⟩
theorem ziS.cells {W : World} {p ob qb nb : Nat} {v : Value} {row col : Int} (h : ziS W p ob qb nb v row col) :
  (W.cell? ⟨p, 0, none⟩ = some (.func (.func 154) #[] #[.pointer (some ⟨ob, 0, none⟩)]) ∧ W.cell? ⟨p, 1, none⟩ = some (.func (.func 155) #[] #[.pointer (some ⟨nb, 0, none⟩)]) ∧ W.cell? ⟨p, 2, none⟩ = some (.func (.func 156) #[] #[.pointer (some ⟨nb, 0, none⟩)]) ∧ W.cell? ⟨p, 3, none⟩ = some (.func (.func 157) #[] #[.pointer (some ⟨qb, 0, none⟩)]))
  ∧ W.cell? ⟨p + 1, 0, none⟩ = some v ∧ W.cell? ⟨p + 1, 1, none⟩ = some (.int .i64 row) ∧ W.cell? ⟨p + 1, 2, none⟩ = some (.int .i64 col) := by
 obtain ⟨h1, h2⟩ := h
 simp [World.cell?, h1, h2, wrV, blV, Value.cells]
theorem zba (w : World) (o : Obj) : (w.alloc o).heap[w.heap.size]? = some o := by unfold World.alloc; simp
theorem zj3 (w : World) (ob qb nb : Nat) (v : Value) (row col : Int) : ziS ((w.alloc (.cells (wrV ob qb nb).cells 111)).alloc (.cells (blV v row col).cells 46)) w.heap.size ob qb nb v row col := by
 constructor
 ·rw [((Ext.refl _).alloc _).heap (by simp)]
  exact zba _ _
 ·exact (congrArg (fun k => ((w.alloc (.cells (wrV ob qb nb).cells 111)).alloc (.cells (blV v row col).cells 46)).heap[k]?) (by simp)).trans (zba (w.alloc (.cells (wrV ob qb nb).cells 111)) (.cells (blV v row col).cells 46))
set_option maxRecDepth 10000 in
set_option maxHeartbeats 1000000 in
theorem zcZ (v : Value) (row col : Int) (n : Nat) (tx : Nat → ByteArray) (w : World) (hv : zam w v n (fun j => .string (tx j))) :
  Calls Tryz.prog 81 #[blV v row col] w fun e w' => e = .returned (.bool (@decide (bOk n row col) (bOkD n row col))) ∧ Ext w w' := by
 obtain ⟨ao, cap, rfl, _, _⟩ := hv
 unfold blV
 by_cases h1 : 0 ≤ row
 ·by_cases h2 : row < (n : Int)
  ·by_cases h3 : 0 ≤ col
   ·by_cases h4 : col < 200
    ·have hb : Hid (@decide (bOk n row col) (bOkD n row col) = true) := @decide_eq_true _ (bOkD n row col) ⟨h1, h2, h3, h4⟩
     go_enter Tryz.func81, Tryz.ntmps81
     go_wp2
     go_ret
     exact ⟨zaH (zu hb).symm, (Ext.refl _).alloc _⟩
    ·have hb : Hid (@decide (bOk n row col) (bOkD n row col) = false) := @decide_eq_false _ (bOkD n row col) (fun e => h4 e.2.2.2)
     go_enter Tryz.func81, Tryz.ntmps81
     go_wp2
     go_ret
     exact ⟨zaH (zu hb).symm, (Ext.refl _).alloc _⟩
   ·have hb : Hid (@decide (bOk n row col) (bOkD n row col) = false) := @decide_eq_false _ (bOkD n row col) (fun e => h3 e.2.2.1)
    go_enter Tryz.func81, Tryz.ntmps81
    go_wp2
    go_ret
    exact ⟨zaH (zu hb).symm, (Ext.refl _).alloc _⟩
  ·have hb : Hid (@decide (bOk n row col) (bOkD n row col) = false) := @decide_eq_false _ (bOkD n row col) (fun e => h2 e.2.1)
   go_enter Tryz.func81, Tryz.ntmps81
   go_wp2
   go_ret
   exact ⟨zaH (zu hb).symm, (Ext.refl _).alloc _⟩
 ·have hb : Hid (@decide (bOk n row col) (bOkD n row col) = false) := @decide_eq_false _ (bOkD n row col) (fun e => h1 e.1)
  go_enter Tryz.func81, Tryz.ntmps81
  go_wp2
  go_ret
  exact ⟨zaH (zu hb).symm, (Ext.refl _).alloc _⟩
set_option maxRecDepth 10000 in
set_option maxHeartbeats 2000000 in
theorem zgJ (v : Value) (row col : Int) (n : Nat) (tx : Nat → ByteArray) (hok : bOk n row col) (B ob qb nb : Nat) (bs : List Int) (w : World) (h : WrS w B ob qb nb bs) (hv : zam w v n (fun j => .string (tx j))) (hn : n ≤ 1048576) (hs : zgE tx n ≤ 274877906944) (hl : bs.length ≤ 1073741824) :
  Calls Tryz.prog 82 #[wrV ob qb nb, blV v row col] w fun e w' => e = .returned (.tuple #[]) ∧ WrS w' B ob qb nb (bs ++ zaM n tx row col) ∧ WF B ob w w' := by
 have hlen := zej tx n
 have hcon := zh (fun W (hW : Ext w W) => zov v n tx W (hv.ext hW) hn hs)
 have hcon2 := zh (fun W (hW : WrS W B ob qb nb bs) => zgv (zcb tx n) (zd7 tx n) B ob qb nb bs W hW (by omega))
 obtain ⟨ao, cap, rfl, _, _⟩ := hv
 have HS := zh h
 have hob : ob < w.heap.size := Nat.lt_of_lt_of_le h.ltb h.le
 have hbx := zj3 w ob qb nb (.slice ao n cap) row col
 have HE := zh (((Ext.refl w).alloc (.cells (wrV ob qb nb).cells 111)).alloc (.cells (blV (.slice ao n cap) row col).cells 46))
 have hp : Hid (bs ++ zaM n tx row col = bs ++ zcb tx n ++ goL ((n : Int) - 1 - row) 65 ++ goL (col + 1) 71) := by refine zh ?_; rw [zaM, if_pos hok]; simp
 unfold bOk at hok
 clear h
 unfold wrV blV at *
 go_enter Tryz.func82, Tryz.ntmps82
 go_wp2
 simp only [Value.cells] at hbx HE
 obtain ⟨W2, hW2⟩ : ∃ W, W = ((w.alloc (Obj.cells #[Value.func (Fn.func 154) #[] #[.pointer (some ⟨ob, 0, none⟩)], .func (.func 155) #[] #[.pointer (some ⟨nb, 0, none⟩)], .func (.func 156) #[] #[.pointer (some ⟨nb, 0, none⟩)], .func (.func 157) #[] #[.pointer (some ⟨qb, 0, none⟩)], .func (.func 158) #[] #[.pointer (some ⟨ob, 0, none⟩)]] 111)).alloc (Obj.cells #[.slice ao n cap, .int .i64 row, .int .i64 col] 46)) := ⟨_, rfl⟩
 rw [← hW2] at hbx HE ⊢
 clear hW2
 have HB := zh hbx
 obtain ⟨⟨a0, a1, a2, a3⟩, b0, b1, b2⟩ := hbx.cells
 clear hbx
 go_region_law (first | (go_simp; go_at_call 159; refine ((zu hcon) _ (zu HE).drew).mono ?_; rintro e w3 ⟨rfl, hE3⟩; have hE4 := (zu HE).drew.trans hE3; have HE4 := zh hE4; have hb3 := (zu HB).ext ((Ext.refl W2).drew.trans hE3); have HB3 := zh hb3; obtain ⟨⟨a03, a13, a23, a33⟩, b03, b13, b23⟩ := hb3.cells; clear hE3 hE4 hb3) | (go_simp; go_at_call 154; refine ((zu hcon2) _ ((zu HS).on (zu HE4))).mono ?_; rintro e w4 ⟨rfl, hS4, hF4⟩; have HS4 := zh hS4; have HF4 := zh ((WF.of_ext (zu HE4)).tr hF4); have hb4 := (zu HB3).wf hF4 hob; have HB4 := zh hb4; obtain ⟨⟨a04, a14, a24, a34⟩, b04, b14, b24⟩ := hb4.cells; clear hS4 hF4 hb4))
 all_goals
  have hgl := zci ((n : Int) - 1 - row) 65 (by omega)
  have hcon3 := zh (zlE ((n : Int) - 1 - row) (by omega) B ob qb nb _ w4 (zu HS4) (by rw [List.length_append]; omega))
  go_wp2_with fail
  refine (zu hcon3).mono ?_
  rintro e w5 ⟨rfl, hS5, hF5⟩
  have HS5 := zh hS5
  have HF5 := zh ((zu HF4).tr hF5)
  have hb5 := (zu HB4).wf hF5 hob
  obtain ⟨⟨a05, a15, a25, a35⟩, b05, b15, b25⟩ := hb5.cells
  clear hS5 hF5 hb5
  have hcon4 := zh (zhm col (by omega) (by omega) B ob qb nb _ w5 (zu HS5) (by simp only [List.length_append]; omega))
  go_wp2_with fail
  refine (zu hcon4).mono ?_
  rintro e w6 ⟨rfl, hS6, hF6⟩
  have HS6 := zh hS6
  have HF6 := zh ((zu HF5).tr hF6)
  clear hS6 hF6
  go_wp2
  exact bodyPost_end (v := .tuple #[]) (by simp [results, Tryz.results82, go_sem]) rfl ⟨rfl, by rw [zu hp]; exact zu HS6, zu HF6⟩
theorem zbb {W : World} {p : Nat} {cs : Array Value} {T : TypeId} {fz : Nat × Nat} (h : W.heap[p]? = some (.cells cs T fz)) (i : Nat) (x : Value) (hx : cs[i]? = some x) : W.cell? ⟨p, i, none⟩ = some x := by simp [World.cell?, h, hx]
theorem WF.keep {B ob : Nat} {W W' : World} {p : Nat} {cs : Array Value} {T : TypeId} {fz : Nat × Nat} (h : WF B ob W W') (hp : W.heap[p]? = some (.cells cs T fz)) (hne : ob ≠ p) (hT : T ≠ 5) : W'.heap[p]? = some (.cells cs T fz) :=
 h.2 _ _ hp (fun e => hne (Option.some.inj e).symm) (fun c f e => by
  injection e with _ e2 _
  exact hT e2)
theorem Ext.keep {W W' : World} {p : Nat} {o : Obj} (h : Ext W W') (hp : W.heap[p]? = some o) : W'.heap[p]? = some o := (h.heap (Array.getElem?_eq_some_iff.1 hp).1).trans hp
set_option maxRecDepth 10000 in
set_option maxHeartbeats 2000000 in
theorem zez (v : Value) (row col : Int) (n : Nat) (tx : Nat → ByteArray) (w : World) (hv : zam w v n (fun j => .string (tx j))) (hn : n ≤ 1048576) (hs : zgE tx n ≤ 274877906944) (hlo : 3 < w.heap.size) (hT : zdK w) :
  Calls Tryz.prog 27 #[blV v row col] w fun e w' => ∃ u, e = .returned u ∧ w'.ownsRow w.heap.size 5 1 u (zaM n tx row col).length ((zaM n tx row col).map (Value.int .u8)) ∧ Ext w w' := by
 have HV := zh hv
 obtain ⟨ao, cap, hvv, _, _⟩ := id hv
 subst hvv
 have hcW := zh (fun W (hW : Ext w W) => zcQ W (Nat.lt_of_lt_of_le hlo hW.size) (hT.keep (hW.heap hlo)))
 have hcO := zh (fun W (hW : Ext w W) => zcZ (.slice ao n cap) row col n tx W (hv.ext hW))
 have H0 : ∀ o, (w.alloc o).heap[w.heap.size]? = some o := fun o => zba w o
 clear hv hT
 unfold blV at *
 go_enter Tryz.func27, Tryz.ntmps27
 go_wp2_with fail
 refine ((zu hcW) _ ((Ext.refl _).alloc _)).mono ?_
 rintro e w2 ⟨ob, qb, nb, rfl, hS, hob, E2⟩
 have hob2 := hob
 rw [World.size_alloc] at hob2
 have hb2 := E2.keep (H0 (.cells #[.slice ao n cap, .int .i64 row, .int .i64 col] 46))
 have E2w : Ext w w2 := ((Ext.refl w).alloc _).trans E2
 have hlt2 := E2w.size
 have hzz : w.heap.size < w2.heap.size := (Array.getElem?_eq_some_iff.1 hb2).1
 have HS := zh hS
 have hltb := hS.ltb
 clear hS E2 hob
 unfold wrV
 have q0 := zbb hb2 0 _ rfl
 have q1 := zbb hb2 1 _ rfl
 have q2 := zbb hb2 2 _ rfl
 go_wp2_with fail
 have hw3 := zba w2 (.cells #[.func (.func 154) #[] #[.pointer (some ⟨ob, 0, none⟩)], .func (.func 155) #[] #[.pointer (some ⟨nb, 0, none⟩)], .func (.func 156) #[] #[.pointer (some ⟨nb, 0, none⟩)], .func (.func 157) #[] #[.pointer (some ⟨qb, 0, none⟩)], .func (.func 158) #[] #[.pointer (some ⟨ob, 0, none⟩)]] 111)
 have E23 := (Ext.refl w2).alloc (.cells #[.func (.func 154) #[] #[.pointer (some ⟨ob, 0, none⟩)], .func (.func 155) #[] #[.pointer (some ⟨nb, 0, none⟩)], .func (.func 156) #[] #[.pointer (some ⟨nb, 0, none⟩)], .func (.func 157) #[] #[.pointer (some ⟨qb, 0, none⟩)], .func (.func 158) #[] #[.pointer (some ⟨ob, 0, none⟩)]] 111)
 refine ((zu hcO) _ (E2w.trans E23)).mono ?_
 rintro e w4 ⟨rfl, E4⟩
 have hw4 := E4.keep hw3
 have hb4 := (E23.trans E4).keep hb2
 have E4w := E2w.trans (E23.trans E4)
 have HS4 := zh ((zu HS).on (E23.trans E4))
 have HE4 := zh E4w
 clear hw3 E23 E4 HS q0 q1 q2
 have q0 := zbb hb4 0 _ rfl
 have q1 := zbb hb4 1 _ rfl
 have q2 := zbb hb4 2 _ rfl
 have p0 := zbb hw4 0 _ rfl
 have p1 := zbb hw4 1 _ rfl
 have p2 := zbb hw4 2 _ rfl
 have p3 := zbb hw4 3 _ rfl
 have p4 := zbb hw4 4 _ rfl
 by_cases hok : bOk n row col
 ·have hcP := zh (zgJ (.slice ao n cap) row col n tx hok w2.heap.size ob qb nb [] w4 (zu HS4) ((zu HV).ext E4w) hn hs (by simp))
  rw [bOk_t hok]
  unfold wrV blV at hcP
  have HW4 := zh hw4
  clear hw4 hb4 hb2 E4w
  go_wp2_with fail
  refine (zu hcP).mono ?_
  rintro e w5 ⟨rfl, hS5, hF5⟩
  rw [List.nil_append] at hS5
  have hw5 := hF5.keep (zu HW4) (by omega) (by decide)
  have r4 := zbb hw5 4 _ rfl
  have HS5 := zh hS5
  have HE5 := zh (hF5.1.ext (zu HE4) (fun k hk => by rcases hk with rfl | hk <;> omega))
  have hcw := zh (zbq w2.heap.size ob qb nb _ w5 hS5)
  clear hS5 hF5 hw5
  go_wp2_with fail
  refine (zu hcw).mono ?_
  rintro e w6 ⟨u, rfl, ho, rfl⟩
  have HO := zh ho
  clear ho
  go_wp2
  go_ret
  exact ⟨u, rfl, zah (zu HO) (by omega), zu HE5⟩
 ·have hp : Hid (zaM n tx row col = []) := by refine zh ?_; rw [zaM, if_neg hok]
  rw [bOk_f hok]
  have hcw := zh (zbq w2.heap.size ob qb nb _ w4 (zu HS4))
  clear hw4 hb4 hb2 E4w
  go_wp2_with fail
  refine (zu hcw).mono ?_
  rintro e w6 ⟨u, rfl, ho, rfl⟩
  have HO := zh ho
  clear ho
  go_wp2
  go_ret
  rw [zu hp]
  exact ⟨u, rfl, zah (zu HO) (by omega), zu HE4⟩
end Go.Proofs.YtinfdhbnljnifaaGreatDoor
