import Derived.Test.YtmlkpdbfnffoaaaGreatDoorCameLine
import Derived.Test.YtmlkpdbfnffoaaaGreatDoorShelfW
import Derived.Test.YtmlkpdbfnffoaaaGreatDoorRows
import Derived.Laws.EntriesVeiled
import Derived.Deep.AppendLies
import Derived.Lib.OwnKind
set_option maxHeartbeats 2000000
set_option maxRecDepth 10000
namespace Go.Proofs.YtmlkpdbfnffoaaaGreatDoor
open Go.RowKit
abbrev zgs : String := (Rows.fnExactWaitRow.named.drop 4).headD ""
theorem gPow : Tryz.prog.globalNamed zgs = some 3 := by kernel_rfl
def zdP (w : World) : Prop := Lib.TabIs Tryz.prog w zgs .u64 Lib.pow10Tab
theorem zdP.keep {w w' : World} (h : zdP w) (hk : w'.heap[3]? = w.heap[3]?) : zdP w' := by
 unfold zdP Lib.TabIs World.var? at h ⊢
 rw [gPow] at h ⊢
 simp only [Option.bind_some] at h ⊢
 rw [hk]
 exact h
theorem zdP.below {w : World} (h : zdP w) {B : Nat} (hB : 3 < B) : Lib.TabBelow Tryz.prog B w zgs .u64 Lib.pow10Tab := fun _ hb => h.keep (hb.block _ hB)
theorem zbi {w w' : World} {k o : Nat} (h : w'.heap[k]? = w.heap[k]?) : w'.cell? ⟨k, o, none⟩ = w.cell? ⟨k, o, none⟩ := by simp [World.cell?, h]
theorem zb9 {w w' : World} {k o : Nat} (h : w'.heap[k]? = w.heap[k]?) : w'.frozen? ⟨k, o, none⟩ = w.frozen? ⟨k, o, none⟩ := by simp [World.frozen?, h]
def seqF (ob : Nat) : Value := .func (.func 146) #[] #[.pointer (some ⟨ob, 0, none⟩)]
def anyF (qb : Nat) : Value := .func (.func 148) #[] #[.pointer (some ⟨qb, 0, none⟩)]
def wrV (ob qb nb : Nat) : Value := .agg #[.func (.func 149) #[] #[.pointer (some ⟨ob, 0, none⟩)], .func (.func 150) #[] #[.pointer (some ⟨nb, 0, none⟩)], .func (.func 151) #[] #[.pointer (some ⟨nb, 0, none⟩)], .func (.func 152) #[] #[.pointer (some ⟨qb, 0, none⟩)], .func (.func 153) #[] #[.pointer (some ⟨ob, 0, none⟩)]]
structure WrS (W : World) (B ob qb nb : Nat) (bs : List Int) : Prop where
 out : ∃ v, W.cell? ⟨ob, 0, none⟩ = some v ∧ W.ownsRow B 5 1 v bs.length (bs.map (Value.int .u8))
 hf : W.frozen? ⟨ob, 0, none⟩ = false
 q : W.cell? ⟨qb, 0, none⟩ = some (seqF ob)
 nn : W.cell? ⟨nb, 0, none⟩ = some (anyF qb)
 neq : qb ≠ ob
 nen : nb ≠ ob
 lo : 3 < ob
 ltb : ob < B
 ltq : qb < B
 ltn : nb < B
 le : B ≤ W.heap.size
 tab : zdP W
def WS (B ob : Nat) (g : Nat) : Prop := g = ob ∨ B ≤ g
def WF (B ob : Nat) (w w' : World) : Prop := Fr (WS B ob) w w' ∧ Lib.OthersKept 5 (some ob) w w'
theorem WF.refl (B ob : Nat) (w : World) : WF B ob w w := ⟨Fr.refl _ _, Lib.OthersKept.refl _ _ _⟩
theorem WF.tr {B ob : Nat} {a b c : World} (h : WF B ob a b) (k : WF B ob b c) : WF B ob a c := ⟨h.1.tr k.1, h.2.trans k.2⟩
theorem WF.of_ext {B ob : Nat} {a b : World} (h : Ext a b) : WF B ob a b := ⟨Fr.of_ext h, fun k o hk _ _ => by rw [h.heap (Array.getElem?_eq_some_iff.1 hk).1]; exact hk⟩
theorem WF.grown {B ob : Nat} {a b c : World} {base n : Nat} {v : Value} {xs : List Value} (h : WF B ob a b) (hg : b.grownBy c v.ownBlock) (ho : b.ownsRow base 5 1 v n xs) (hb : B ≤ base) : WF B ob a c :=
 ⟨h.1.grown hg (fun k hk => .inr (Nat.le_trans hb (ho.lt k hk).1)), h.2.grown hg (Lib.ownsRow_kind ho)⟩
theorem WF.of_below {B ob : Nat} {a b : World} (h : Below B a b) (hk : Lib.OthersKept 5 none a b) : WF B ob a b :=
 ⟨⟨h.os, h.tape, h.output, h.size, fun i _ hn => h.block i (Nat.lt_of_not_le fun e => hn (.inr e))⟩, fun k o h1 _ h3 => hk k o h1 (by simp) h3⟩
theorem WF.setCell {B ob : Nat} {a b : World} (h : WF B ob a b) (v : Value) : WF B ob a (b.setCell ⟨ob, 0, none⟩ v) := ⟨h.1.setCell (.inl rfl) v, h.2.setCell _ rfl v⟩
theorem WrS.next {W W' : World} {B ob qb nb : Nat} {bs bs' : List Int} {v' : Value} (h : WrS W B ob qb nb bs) (hF : WF B ob W W') (hc : W'.cell? ⟨ob, 0, none⟩ = some v') (hz : W'.frozen? ⟨ob, 0, none⟩ = false)
  (ho : W'.ownsRow B 5 1 v' bs'.length (bs'.map (Value.int .u8))) : WrS W' B ob qb nb bs' := by
 have hl := h.le
 have hb := h.ltb
 have hlo := h.lo
 refine ⟨⟨v', hc, ho⟩, hz, ?_, ?_, h.neq, h.nen, h.lo, h.ltb, h.ltq, h.ltn, Nat.le_trans hl hF.1.size, h.tab.keep (hF.1.block _ (by omega) (fun e => ?_))⟩
 ·have := h.ltq
  have hne := h.neq
  rw [zbi (hF.1.block _ (by omega) (fun e => by rcases e with e | e <;> omega))]
  exact h.q
 ·have := h.ltn
  have hne := h.nen
  rw [zbi (hF.1.block _ (by omega) (fun e => by rcases e with e | e <;> omega))]
  exact h.nn
 ·rcases e with e | e <;> omega
theorem WrS.on {W W' : World} {B ob qb nb : Nat} {bs : List Int} (h : WrS W B ob qb nb bs) (hE : Ext W W') : WrS W' B ob qb nb bs := by
 obtain ⟨v, hc, ho⟩ := h.out
 have hl := h.le
 have hb := h.ltb
 exact h.next (WF.of_ext hE) (hE.cell hc) (by rw [zb9 (hE.heap (by omega))]; exact h.hf) (hE.owns ho)
theorem WrS.put {W W' : World} {B ob qb nb : Nat} {bs bs' : List Int} {u v' : Value} (h : WrS W B ob qb nb bs) (hF : WF B ob W W') (hc : W'.cell? ⟨ob, 0, none⟩ = some u) (hz : W'.frozen? ⟨ob, 0, none⟩ = false)
  (ho : W'.ownsRow B 5 1 v' bs'.length (bs'.map (Value.int .u8))) : WrS (W'.setCell ⟨ob, 0, none⟩ v') B ob qb nb bs' ∧ WF B ob W (W'.setCell ⟨ob, 0, none⟩ v') := by
 have hF2 := hF.setCell v'
 refine ⟨h.next (v' := v') hF2 (World.cell?_setCell_same _ _ _ hc) (by simpa using hz) (zf ho (fun e => ?_) _), hF2⟩
 have h1 := (ho.lt _ e).1
 have h2 := h.ltb
 simp at h1
 omega
theorem zhu {xs : List Int} (h : zaj xs) : Lib.strCells (zv xs) = xs.map (Value.int .u8) := by
 unfold Lib.strCells
 rw [zbq, List.map_map]
 apply List.map_congr_left
 intro x hx
 have := h x hx
 simp
 omega
theorem zgC (l : List UInt8) : Lib.byteCells l = (l.map (fun b => ((b.toNat : Nat) : Int))).map (Value.int .u8) := by
 unfold Lib.byteCells
 rw [List.map_map]
 rfl
theorem zhd (w : World) (hlo : 3 < w.heap.size) (hT : zdP w) :
  Calls Tryz.prog 95 #[] w fun e w' => ∃ ob qb nb, e = .returned (wrV ob qb nb) ∧ WrS w' w'.heap.size ob qb nb [] ∧ (w.heap.size ≤ ob ∧ w.heap.size ≤ qb ∧ w.heap.size ≤ nb) ∧ Ext w w' := by
 go_enter Tryz.func95, Tryz.ntmps95
 go_wp2
 refine bodyPost_ret (v := wrV (w.heap.size + 1) (w.heap.size + 1 + 1) (w.heap.size + 1 + 1 + 1)) (by simp [results, Tryz.results95, go_sem, wrV]) rfl ⟨_, _, _, rfl, ?_, ⟨by omega, by omega, by omega⟩, ?_⟩
 ·refine ⟨⟨.slice none 0 0, by simp [go_sem], ⟨rfl, .inl ⟨rfl, rfl⟩⟩⟩, by simp [go_sem], by simp [go_sem, seqF], by simp [go_sem, anyF], by omega, by omega, by omega, by simp, by simp, by simp, Nat.le_refl _, hT.keep ?_⟩
  exact ((((Ext.refl w).alloc _).alloc _).alloc _).alloc _ |>.heap hlo
 ·exact ((((Ext.refl w).alloc _).alloc _).alloc _).alloc _
theorem zfh : ∃ i, Tryz.prog.info? 5 = some i ∧ i.zero = some (.int .u8 0) ∧ i.size = 1 ∧ i.bytes = 1 := info_parts zgL
theorem zeL {w w' : World} {row : Option Nat} (hg : w.grownBy w' row) {k : Nat} (hk : k < w.heap.size) (hn : row ≠ some k) : w'.heap[k]? = w.heap[k]? := hg.block k hk (fun e => hn e.symm)
theorem ze5 (xs : List Int) (hx : zaj xs) (B ob qb nb : Nat) (bs : List Int) (w : World) (h : WrS w B ob qb nb bs) (hl : bs.length + xs.length ≤ 1099511627776) :
  Calls Tryz.prog 149 #[.string (zv xs), .pointer (some ⟨ob, 0, none⟩)] w fun e w' => e = .returned (.tuple #[]) ∧ WrS w' B ob qb nb (bs ++ xs) ∧ WF B ob w w' := by
 obtain ⟨i0, hi, hz0, hz1, hz2⟩ := zfh
 obtain ⟨v, hc, ho⟩ := h.out
 obtain ⟨ao, cap, hv, _⟩ := id (zaf ho)
 have HV := zi hv
 subst hv
 have hle := h.le
 have hlt := h.ltb
 have hfz := h.hf
 have HO := zi ho
 have HS := zi h
 have hsz := zai xs
 have hrow : ∀ k, (Value.slice ao bs.length cap).ownBlock = some k → B ≤ k := fun k hk => (ho.lt k hk).1
 have HR := zi hrow
 clear ho h hrow HV
 go_enter Tryz.func149, Tryz.ntmps149
 go_wp2_with (at_builtin; go_must (refine Lib.wpList_append_own_string _ rfl _ _ 25 9 rfl B 5 i0 Tryz.underlying25 Tryz.underlying9 hi hz0 hz1 hz2 _ _ _ rfl (zg HO) (zv xs) rfl (by rw [hsz]; unfold maxLen; omega) (by rw [hsz]; omega) hle ?_); intro v2 w1 ho1 hg1 hq1; rw [hsz, zhu hx, ← List.map_append, ← List.length_append] at ho1; obtain ⟨ao2, cap2, hv2, _⟩ := id (zaf ho1); subst hv2; have hb1 := zeL hg1 (k := ob) (by omega) (fun e => by have := (zg HR) _ e; omega); have c1 := (zbi (o := 0) hb1).trans hc; have f1 := (zb9 (o := 0) hb1).trans hfz; have HO1 := zi ho1; have HG1 := zi hg1; clear ho1 hg1 hq1 hb1)
 rw [← List.length_append]
 obtain ⟨hS, hF⟩ := (zg HS).put ((WF.refl _ _ _).grown (zg HG1) (zg HO) (Nat.le_refl _)) c1 f1 (zg HO1)
 exact bodyPost_end (v := .tuple #[]) (by simp [results, Tryz.results149, go_sem]) rfl ⟨rfl, hS, hF⟩
theorem zhs (B ob n : Nat) (i : Int) (h0 : 0 < i) (h1 : i ≤ 9223372036854775807) (sv : Value) (bs : List Int) (w : World) (hn : n = bs.length) (hown : w.ownsRow B 5 1 sv n (bs.map (Value.int .u8))) (hBw : B ≤ w.heap.size) (hlim : n + 21 ≤ 140737488355328) (hT : zdP w) (hB : 3 < B) :
  Calls Tryz.prog 147 #[sv, .int .i64 i, .int .i64 10] w fun e w' => ∃ ao cap, e = .returned (.slice ao (bs ++ dg i.toNat).length cap) ∧ w'.ownsRow B 5 1 (.slice ao (bs ++ dg i.toNat).length cap) (bs ++ dg i.toNat).length ((bs ++ dg i.toNat).map (Value.int .u8)) ∧ WF B ob w w' ∧ (ob < B → w'.heap[ob]? = w.heap[ob]?) := by
 subst hn
 have hc := Any.strconv_AppendInt_10 Tryz.lays176 B bs.length i (by omega) h1 sv (bs.map (Value.int .u8)) w hown hBw hlim (hT.below hB)
 refine Calls.mono hc ?_
 rintro e w' ⟨v', rfl, ho, hb, hk⟩
 rw [zgC, zk0 i h0, ← List.map_append, show bs.length + (Lib.itoa i).length = (bs ++ dg i.toNat).length by rw [List.length_append, ← zk0 i h0]; simp] at ho
 obtain ⟨ao, cap, hv, _⟩ := id (zaf ho)
 subst hv
 exact ⟨ao, cap, rfl, ho, WF.of_below hb hk, fun h => hb.block ob h⟩
theorem zk7 (n c : Int) (h0 : 0 < n) (h1 : n ≤ 99999999) (B ob qb nb : Nat) (bs : List Int) (w : World) (h : WrS w B ob qb nb bs) (hl : bs.length ≤ 1099511627776) :
  Calls Tryz.prog 146 #[.int .i64 n, .int .u8 c, .pointer (some ⟨ob, 0, none⟩)] w fun e w' => e = .returned (.tuple #[]) ∧ WrS w' B ob qb nb (bs ++ goL n c) ∧ WF B ob w w' := by
 obtain ⟨i0, hi, hz0, hz1, hz2⟩ := zfh
 have hgo : Hid (bs ++ goL n c = ((bs ++ [27, 91]) ++ dg n.toNat) ++ [c]) := by refine zi ?_; rw [goL, if_neg (by omega)]; simp
 have hdl := zfg 8 n.toNat (by omega)
 obtain ⟨v, hc, ho⟩ := h.out
 obtain ⟨ao, cap, hv, _⟩ := id (zaf ho)
 subst hv
 have hle := h.le
 have hlt := h.ltb
 have hfz := h.hf
 have HO := zi ho
 have HS := zi h
 have hrow : ∀ k, (Value.slice ao bs.length cap).ownBlock = some k → B ≤ k := fun k hk => (ho.lt k hk).1
 have HR := zi hrow
 clear ho h hrow
 go_enter Tryz.func146, Tryz.ntmps146
 go_wp2_with (at_builtin; go_must (refine wpList_append_lies _ rfl _ _ 25 rfl B 5 i0 (.int .u8 0) 1 1 Tryz.underlying25 hi hz0 hz1 hz2 rfl (by decide) _ _ _ rfl ((zg HO).alloc _) ⟨w.heap.size, 0, none⟩ 2 2 (([27, 91] : List Int).map (Value.int .u8)) rfl rfl (zal _ _) (ints_oneCell _ _) (by decide) (by unfold maxLen; omega) (by omega) (by simp; omega) _ rfl ?_); intro g1 cap1 w1 ho1 hg1 hq1 hz1; rw [← List.map_append, show bs.length + 2 = (bs ++ [27, 91]).length by simp] at ho1; have hb1 := zeL hg1 (k := ob) (by simp; omega) (fun e => by have := (zg HR) _ e; omega); have hb0 := hb1.trans (((Ext.refl w).alloc _).heap (by omega)); have c1 := (zbi (o := 0) hb0).trans hc; have f1 := (zb9 (o := 0) hb0).trans hfz; obtain ⟨hS1, hF1⟩ := (zg HS).put ((WF.of_ext ((Ext.refl w).alloc _)).grown hg1 ((zg HO).alloc _) (Nat.le_refl _)) c1 f1 ho1; have HS1 := zi hS1; have HF1 := zi hF1; clear ho1 hg1 hq1 hz1 hb1 hb0 hS1 hF1)
 obtain ⟨W1, hW1⟩ : ∃ W1, W1 = w1.setCell ⟨ob, 0, none⟩ (.slice (some ⟨g1, 0, none⟩) (bs.length + 2) cap1) := ⟨_, rfl⟩
 have hn3 : (bs ++ ([27, 91] : List Int)).length = bs.length + 2 := by simp
 rw [hn3, ← hW1] at HS1 HF1
 rw [← hW1]
 have c2 : W1.cell? ⟨ob, 0, none⟩ = some (.slice (some ⟨g1, 0, none⟩) (bs.length + 2) cap1) := by rw [hW1]; exact World.cell?_setCell_same _ _ _ c1
 clear hW1 c1 f1
 obtain ⟨v1, hc1, ho1⟩ := (zg HS1).out
 obtain rfl := Option.some.inj (c2.symm.trans hc1)
 have hn2 : bs.length + 2 = (bs ++ [27, 91]).length := by simp
 refine (zhs B ob (bs.length + 2) n h0 (by omega) _ (bs ++ [27, 91]) W1 hn2 (by rw [hn2] at ho1 ⊢; exact ho1) (zg HS1).le (by omega) (zg HS1).tab (by have := (zg HS1).lo; omega)).mono ?_
 rintro e w2 ⟨ao2, cap2, rfl, ho2, hb2, hkk⟩
 have hk2 := hkk hlt
 have c3 := (zbi (o := 0) hk2).trans c2
 have f3 := (zb9 (o := 0) hk2).trans (zg HS1).hf
 have hl2 : (bs ++ ([27, 91] : List Int) ++ dg n.toNat).length ≤ 1099511627800 := by simp only [List.length_append, List.length_cons, List.length_nil]; omega
 obtain ⟨L, hL⟩ : ∃ L, L = bs ++ ([27, 91] : List Int) ++ dg n.toNat := ⟨_, rfl⟩
 rw [← hL] at ho2 hl2 ⊢
 have HL := zi hL
 clear hL
 obtain ⟨m, hm⟩ : ∃ m, m = L.length := ⟨_, rfl⟩
 obtain ⟨hS2, hF2⟩ := (zg HS1).put hb2 c3 f3 ho2
 rw [← hm] at hS2 hF2 hl2 ⊢
 have HM := zi hm
 clear hm
 have HF2 := zi ((zg HF1).tr hF2)
 have hE2 : ∀ o, WF B ob (w2.setCell ⟨ob, 0, none⟩ (.slice ao2 m cap2)) ((w2.setCell ⟨ob, 0, none⟩ (.slice ao2 m cap2)).alloc o) := fun o => WF.of_ext ((Ext.refl _).alloc o)
 have HE2 := zi hE2
 have c4 := World.cell?_setCell_same _ _ (.slice ao2 m cap2) c3
 obtain ⟨v4, hv4, ho4⟩ := hS2.out
 obtain rfl := Option.some.inj (c4.symm.trans hv4)
 have HS2 := zi hS2
 have hle2 := hS2.le
 rw [World.size_setCell] at hle2
 have f4 := hS2.hf
 have hrow2 : ∀ k, (Value.slice ao2 m cap2).ownBlock = some k → B ≤ k := fun k hk => (ho4.lt k hk).1
 have HR2 := zi hrow2
 rw [← zg HM] at ho4
 have HO4 := zi ho4
 have HC4 := zi c4
 have HF4 := zi f4
 clear ho2 hS2 hF2 hE2 hv4 ho4 hrow2 hc1 ho1 c2 hb2 hk2 hkk c4 f4 HO HS HR HS1 HF1 hn2 hn3
 go_wp2_with (at_builtin; go_must (refine wpList_append_lies _ rfl _ _ 25 rfl B 5 i0 (.int .u8 0) 1 1 Tryz.underlying25 hi hz0 hz1 hz2 rfl (by decide) _ _ _ rfl ((zg HO4).alloc _) ⟨w2.heap.size, 0, none⟩ 1 1 (([c] : List Int).map (Value.int .u8)) rfl rfl (by intro j u hu; cases j with | zero => (simp at hu; subst hu; simp [go_sem]) | succ j => simp at hu) (ints_oneCell _ _) (by decide) (by unfold maxLen; omega) (by omega) (by simp; omega) _ rfl ?_); intro g5 cap5 w5 ho5 hg5 hq5 hz5; rw [← List.map_append, show m + 1 = (L ++ [c]).length by rw [zg HM]; simp] at ho5; have hb5 := zeL hg5 (k := ob) (by simp; omega) (fun e => by have := (zg HR2) _ e; omega); have hb6 := hb5.trans (((Ext.refl (w2.setCell ⟨ob, 0, none⟩ (.slice ao2 m cap2))).alloc _).heap (by simp; omega)); have c5 := (zbi (o := 0) hb6).trans (zg HC4); have f5 := (zb9 (o := 0) hb6).trans (zg HF4); obtain ⟨hS5, hF5⟩ := (zg HS2).put (((zg HE2) _).grown hg5 ((zg HO4).alloc _) (Nat.le_refl _)) c5 f5 ho5; have HS5 := zi hS5; have HF5 := zi hF5; clear ho5 hg5 hq5 hz5 hb5 hb6 hS5 hF5)
 rw [show m + 1 = (L ++ [c]).length by rw [zg HM]; simp]
 refine bodyPost_end (v := .tuple #[]) (by simp [results, Tryz.results146, go_sem]) rfl ⟨rfl, ?_, (zg HF2).tr (zg HF5)⟩
 rw [zg hgo, ← zg HL]
 exact zg HS5
def RB (w : World) (base : Nat) (v : Value) (L : List Int) : Prop := zag w .u8 v L ∧ ∀ g, v.ownBlock = some g → base ≤ g ∧ g < w.heap.size
theorem RB.ext {w w' : World} {base : Nat} {v : Value} {L : List Int} (h : RB w base v L) (he : Ext w w') : RB w' base v L := ⟨h.1.ext he, fun g hg => ⟨(h.2 g hg).1, Nat.lt_of_lt_of_le (h.2 g hg).2 he.size⟩⟩
theorem RB.fr {S : Nat → Prop} {w w' : World} {base : Nat} {v : Value} {L : List Int} (h : RB w base v L) (hf : Fr S w w') (hS : ∀ g, v.ownBlock = some g → ¬ S g) : RB w' base v L := by
 refine ⟨?_, fun g hg => ⟨(h.2 g hg).1, Nat.lt_of_lt_of_le (h.2 g hg).2 hf.size⟩⟩
 obtain ⟨⟨ao, cap, rfl, hc, hx⟩, hl⟩ := h
 refine ⟨ao, cap, rfl, hc, fun hp => ?_⟩
 obtain ⟨b, off, rfl, hcell⟩ := hx hp
 refine ⟨b, off, rfl, fun j hj => ?_⟩
 rw [zbi (hf.block b (hl b rfl).2 (hS b rfl))]
 exact hcell j hj
theorem zlw (n c : Int) (h1 : n ≤ 99999999) (B ob qb nb : Nat) (bs : List Int) (w : World) (h : WrS w B ob qb nb bs) (hl : bs.length ≤ 1099511627776) :
  Calls Tryz.prog 148 #[.int .i64 n, .int .u8 c, .pointer (some ⟨qb, 0, none⟩)] w fun e w' => e = .returned (.tuple #[]) ∧ WrS w' B ob qb nb (bs ++ goL n c) ∧ WF B ob w w' := by
 have HS := zi h
 have hq := h.q
 unfold seqF at hq
 clear h
 by_cases h0 : 0 < n
 ·have hcon := zi (zk7 n c h0 h1 B ob qb nb bs w (zg HS) hl)
  go_enter Tryz.func148, Tryz.ntmps148
  go_wp2_with fail
  refine (zg hcon).mono ?_
  rintro e w1 ⟨rfl, h1, h2⟩
  have H1 := zi h1
  have H2 := zi h2
  clear h1 h2
  go_wp2
  exact bodyPost_end (v := .tuple #[]) (by simp [results, Tryz.results148, go_sem]) rfl ⟨rfl, zg H1, zg H2⟩
 ·have hg : Hid (bs ++ goL n c = bs) := by refine zi ?_; rw [goL, if_pos (by omega)]; simp
  go_enter Tryz.func148, Tryz.ntmps148
  go_wp2
  exact bodyPost_end (v := .tuple #[]) (by simp [results, Tryz.results148, go_sem]) rfl ⟨rfl, by rw [zg hg]; exact zg HS, WF.refl _ _ _⟩
theorem zkg (n : Int) (h1 : n ≤ 99999999) (B ob qb nb : Nat) (bs : List Int) (w : World) (h : WrS w B ob qb nb bs) (hl : bs.length ≤ 1099511627776) :
  Calls Tryz.prog 150 #[.int .i64 n, .pointer (some ⟨nb, 0, none⟩)] w fun e w' => e = .returned (.tuple #[]) ∧ WrS w' B ob qb nb (bs ++ goL n 65) ∧ WF B ob w w' := by
 have hcon := zi (zlw n 65 h1 B ob qb nb bs w h hl)
 have hq := h.nn
 unfold anyF at hq
 clear h
 go_enter Tryz.func150, Tryz.ntmps150
 go_wp2_with fail
 refine (zg hcon).mono ?_
 rintro e w1 ⟨rfl, h1, h2⟩
 have H1 := zi h1
 have H2 := zi h2
 clear h1 h2
 go_wp2
 exact bodyPost_end (v := .tuple #[]) (by simp [results, Tryz.results150, go_sem]) rfl ⟨rfl, zg H1, zg H2⟩
theorem zmW (n : Int) (h1 : n ≤ 99999999) (B ob qb nb : Nat) (bs : List Int) (w : World) (h : WrS w B ob qb nb bs) (hl : bs.length ≤ 1099511627776) :
  Calls Tryz.prog 151 #[.int .i64 n, .pointer (some ⟨nb, 0, none⟩)] w fun e w' => e = .returned (.tuple #[]) ∧ WrS w' B ob qb nb (bs ++ goL n 66) ∧ WF B ob w w' := by
 have hcon := zi (zlw n 66 h1 B ob qb nb bs w h hl)
 have hq := h.nn
 unfold anyF at hq
 clear h
 go_enter Tryz.func151, Tryz.ntmps151
 go_wp2_with fail
 refine (zg hcon).mono ?_
 rintro e w1 ⟨rfl, h1, h2⟩
 have H1 := zi h1
 have H2 := zi h2
 clear h1 h2
 go_wp2
 exact bodyPost_end (v := .tuple #[]) (by simp [results, Tryz.results151, go_sem]) rfl ⟨rfl, zg H1, zg H2⟩
theorem zgQ (n : Int) (h0 : 0 ≤ n) (h1 : n ≤ 9999999) (B ob qb nb : Nat) (bs : List Int) (w : World) (h : WrS w B ob qb nb bs) (hl : bs.length ≤ 1099511627776) :
  Calls Tryz.prog 152 #[.int .i64 n, .pointer (some ⟨qb, 0, none⟩)] w fun e w' => e = .returned (.tuple #[]) ∧ WrS w' B ob qb nb (bs ++ goL (n + 1) 71) ∧ WF B ob w w' := by
 have hcon := zi (zk7 (n + 1) 71 (by omega) (by omega) B ob qb nb bs w h hl)
 have hq := h.q
 unfold seqF at hq
 clear h
 go_enter Tryz.func152, Tryz.ntmps152
 go_wp2_with fail
 refine (zg hcon).mono ?_
 rintro e w1 ⟨rfl, h1, h2⟩
 have H1 := zi h1
 have H2 := zi h2
 clear h1 h2
 go_wp2
 exact bodyPost_end (v := .tuple #[]) (by simp [results, Tryz.results152, go_sem]) rfl ⟨rfl, zg H1, zg H2⟩
theorem znl (l : List UInt8) : l.map ((fun n : Int => UInt8.ofNat n.toNat) ∘ fun b => ((b.toNat : Nat) : Int)) = l := by
 induction l with
 | nil => rfl
 | cons b l ih => rw [List.map_cons, ih]; simp
theorem zm9 (v : Value) (n : Nat) (tx : Nat → ByteArray) (w : World) (hv : zah w v n (fun j => .string (tx j))) (hn : n ≤ 1048576) (hs : za4 tx n ≤ 274877906944) :
  Calls Tryz.prog 283 #[v, .string ⟨#[13, 10]⟩] w fun e w' => e = .returned (.string (zv (zbC tx n))) ∧ Ext w w' := by
 have hj := zhL tx n
 have hL : (Lib.join (((List.range n).map tx).map (fun x => x.data.toList)) [13, 10]).length = (zbC tx n).length := by rw [← hj]; simp
 have hlen := zcG tx n
 have hret : zv (zbC tx n) = ⟨(Lib.join (((List.range n).map tx).map (fun x => x.data.toList)) [13, 10]).toArray⟩ := by
  apply WideShapes.bytes_inj
  rw [zbq, ← hj, List.map_map, znl]
 obtain ⟨ao, cap, rfl, hcap, hc⟩ := hv
 by_cases h0 : n = 0
 ·subst h0
  refine (Any.strings_Join_none Tryz.lays156 Tryz.Builder_Extra_156 ao cap _ w).mono ?_
  rintro e w' ⟨rfl, rfl⟩
  refine ⟨?_, Ext.refl _⟩
  rw [hret]
  rfl
 ·obtain ⟨b, o, rfl, hc'⟩ := hc (by omega)
  have hlt := zb2 (hc' 0 (by omega))
  have hJ := Any.strings_Join Tryz.lays156 Tryz.Builder_Extra_156 b o cap ((List.range n).map tx) ⟨#[13, 10]⟩ w (fun j x hx => by
   rw [List.getElem?_map] at hx
   by_cases hjn : j < n
   ·rw [List.getElem?_range hjn] at hx
    simp at hx
    subst hx
    exact hc' j hjn
   ·rw [List.getElem?_eq_none (by simp; omega)] at hx
    simp at hx) hlt (by simp; omega) (by simp; omega) (by show (Lib.join _ [13, 10]).length ≤ _; rw [hL]; omega)
  rw [List.length_map, List.length_range] at hJ
  refine Calls.mono hJ ?_
  rintro e w' ⟨rfl, hb⟩
  refine ⟨?_, Ext.of_below hb⟩
  rw [hret]
def zif (W : World) (p ob qb nb : Nat) (v : Value) (row col : Int) : Prop :=
 W.heap[p]? = some (.cells (wrV ob qb nb).cells 84 (0, 0)) ∧ W.heap[p + 1]? = some (.cells (blV v row col).cells 86 (0, 0))
theorem zif.wf {W W' : World} {p B ob qb nb : Nat} {v : Value} {row col : Int} (h : zif W p ob qb nb v row col) (hF : WF B ob W W') (hp : ob < p) : zif W' p ob qb nb v row col :=
 ⟨hF.2 _ _ h.1 (by simp; omega) (fun c fz e => by simp at e), hF.2 _ _ h.2 (by simp; omega) (fun c fz e => by simp at e)⟩
theorem zif.ext {W W' : World} {p ob qb nb : Nat} {v : Value} {row col : Int} (h : zif W p ob qb nb v row col) (hE : Ext W W') : zif W' p ob qb nb v row col :=
 ⟨(hE.heap (Array.getElem?_eq_some_iff.1 h.1).1).trans h.1, (hE.heap (Array.getElem?_eq_some_iff.1 h.2).1).trans h.2⟩
theorem zif.cells {W : World} {p ob qb nb : Nat} {v : Value} {row col : Int} (h : zif W p ob qb nb v row col) :
  (W.cell? ⟨p, 0, none⟩ = some (.func (.func 149) #[] #[.pointer (some ⟨ob, 0, none⟩)]) ∧ W.cell? ⟨p, 1, none⟩ = some (.func (.func 150) #[] #[.pointer (some ⟨nb, 0, none⟩)]) ∧ W.cell? ⟨p, 2, none⟩ = some (.func (.func 151) #[] #[.pointer (some ⟨nb, 0, none⟩)]) ∧ W.cell? ⟨p, 3, none⟩ = some (.func (.func 152) #[] #[.pointer (some ⟨qb, 0, none⟩)]))
  ∧ W.cell? ⟨p + 1, 0, none⟩ = some v ∧ W.cell? ⟨p + 1, 1, none⟩ = some (.int .i64 row) ∧ W.cell? ⟨p + 1, 2, none⟩ = some (.int .i64 col) := by
 obtain ⟨h1, h2⟩ := h
 simp [World.cell?, h1, h2, wrV, blV, Value.cells]
theorem zbO (w : World) (o : Obj) : (w.alloc o).heap[w.heap.size]? = some o := by unfold World.alloc; simp
theorem zjJ (w : World) (ob qb nb : Nat) (v : Value) (row col : Int) : zif ((w.alloc (.cells (wrV ob qb nb).cells 84)).alloc (.cells (blV v row col).cells 86)) w.heap.size ob qb nb v row col := by
 constructor
 ·rw [((Ext.refl _).alloc _).heap (by simp)]
  exact zbO _ _
 ·exact (congrArg (fun k => ((w.alloc (.cells (wrV ob qb nb).cells 84)).alloc (.cells (blV v row col).cells 86)).heap[k]?) (by simp)).trans (zbO (w.alloc (.cells (wrV ob qb nb).cells 84)) (.cells (blV v row col).cells 86))
theorem zfm (v : Value) (row col : Int) (n : Nat) (tx : Nat → ByteArray) (w : World) (hv : zah w v n (fun j => .string (tx j))) :
  Calls Tryz.prog 133 #[blV v row col] w fun e w' => e = .returned (.bool (@decide (bOk n row col) (bOkD n row col))) ∧ Ext w w' := by
 obtain ⟨ao, cap, rfl, _, _⟩ := hv
 unfold blV
 by_cases h1 : 0 ≤ row
 ·by_cases h2 : row < (n : Int)
  ·by_cases h3 : 0 ≤ col
   ·by_cases h4 : col < 200
    ·have hb : Hid (@decide (bOk n row col) (bOkD n row col) = true) := @decide_eq_true _ (bOkD n row col) ⟨h1, h2, h3, h4⟩
     go_enter Tryz.func133, Tryz.ntmps133
     go_wp2
     go_ret
     exact ⟨zw (zg hb).symm, (Ext.refl _).alloc _⟩
    ·have hb : Hid (@decide (bOk n row col) (bOkD n row col) = false) := @decide_eq_false _ (bOkD n row col) (fun e => h4 e.2.2.2)
     go_enter Tryz.func133, Tryz.ntmps133
     go_wp2
     go_ret
     exact ⟨zw (zg hb).symm, (Ext.refl _).alloc _⟩
   ·have hb : Hid (@decide (bOk n row col) (bOkD n row col) = false) := @decide_eq_false _ (bOkD n row col) (fun e => h3 e.2.2.1)
    go_enter Tryz.func133, Tryz.ntmps133
    go_wp2
    go_ret
    exact ⟨zw (zg hb).symm, (Ext.refl _).alloc _⟩
  ·have hb : Hid (@decide (bOk n row col) (bOkD n row col) = false) := @decide_eq_false _ (bOkD n row col) (fun e => h2 e.2.1)
   go_enter Tryz.func133, Tryz.ntmps133
   go_wp2
   go_ret
   exact ⟨zw (zg hb).symm, (Ext.refl _).alloc _⟩
 ·have hb : Hid (@decide (bOk n row col) (bOkD n row col) = false) := @decide_eq_false _ (bOkD n row col) (fun e => h1 e.1)
  go_enter Tryz.func133, Tryz.ntmps133
  go_wp2
  go_ret
  exact ⟨zw (zg hb).symm, (Ext.refl _).alloc _⟩
theorem zkF (v : Value) (row col : Int) (n : Nat) (tx : Nat → ByteArray) (hok : bOk n row col) (B ob qb nb : Nat) (bs : List Int) (w : World) (h : WrS w B ob qb nb bs) (hv : zah w v n (fun j => .string (tx j))) (hn : n ≤ 1048576) (hs : za4 tx n ≤ 274877906944) (hl : bs.length ≤ 1073741824) :
  Calls Tryz.prog 215 #[wrV ob qb nb, blV v row col] w fun e w' => e = .returned (.tuple #[]) ∧ WrS w' B ob qb nb (bs ++ zbj n tx row col) ∧ WF B ob w w' := by
 have hlen := zcG tx n
 have hcon := zi (fun W (hW : Ext w W) => zm9 v n tx W (hv.ext hW) hn hs)
 have hcon2 := zi (fun W (hW : WrS W B ob qb nb bs) => ze5 (zbC tx n) (zfX tx n) B ob qb nb bs W hW (by omega))
 obtain ⟨ao, cap, rfl, _, _⟩ := hv
 have HS := zi h
 have hob : ob < w.heap.size := Nat.lt_of_lt_of_le h.ltb h.le
 have hbx := zjJ w ob qb nb (.slice ao n cap) row col
 have HE := zi (((Ext.refl w).alloc (.cells (wrV ob qb nb).cells 84)).alloc (.cells (blV (.slice ao n cap) row col).cells 86))
 have hp : Hid (bs ++ zbj n tx row col = bs ++ zbC tx n ++ goL ((n : Int) - 1 - row) 65 ++ goL (col + 1) 71) := by refine zi ?_; rw [zbj, if_pos hok]; simp
 unfold bOk at hok
 clear h
 unfold wrV blV at *
 go_enter Tryz.func215, Tryz.ntmps215
 go_wp2
 simp only [Value.cells] at hbx HE
 obtain ⟨W2, hW2⟩ : ∃ W, W = ((w.alloc (Obj.cells #[Value.func (Fn.func 149) #[] #[.pointer (some ⟨ob, 0, none⟩)], .func (.func 150) #[] #[.pointer (some ⟨nb, 0, none⟩)], .func (.func 151) #[] #[.pointer (some ⟨nb, 0, none⟩)], .func (.func 152) #[] #[.pointer (some ⟨qb, 0, none⟩)], .func (.func 153) #[] #[.pointer (some ⟨ob, 0, none⟩)]] 84)).alloc (Obj.cells #[.slice ao n cap, .int .i64 row, .int .i64 col] 86)) := ⟨_, rfl⟩
 rw [← hW2] at hbx HE ⊢
 clear hW2
 have HB := zi hbx
 obtain ⟨⟨a0, a1, a2, a3⟩, b0, b1, b2⟩ := hbx.cells
 clear hbx
 go_region_law (first | (go_simp; go_at_call 283; refine ((zg hcon) _ (zg HE).drew).mono ?_; rintro e w3 ⟨rfl, hE3⟩; have hE4 := (zg HE).drew.trans hE3; have HE4 := zi hE4; have hb3 := (zg HB).ext ((Ext.refl W2).drew.trans hE3); have HB3 := zi hb3; obtain ⟨⟨a03, a13, a23, a33⟩, b03, b13, b23⟩ := hb3.cells; clear hE3 hE4 hb3) | (go_simp; go_at_call 149; refine ((zg hcon2) _ ((zg HS).on (zg HE4))).mono ?_; rintro e w4 ⟨rfl, hS4, hF4⟩; have HS4 := zi hS4; have HF4 := zi ((WF.of_ext (zg HE4)).tr hF4); have hb4 := (zg HB3).wf hF4 hob; have HB4 := zi hb4; obtain ⟨⟨a04, a14, a24, a34⟩, b04, b14, b24⟩ := hb4.cells; clear hS4 hF4 hb4))
 all_goals
  have hgl := zbo ((n : Int) - 1 - row) 65 (by omega)
  have hcon3 := zi (zkg ((n : Int) - 1 - row) (by omega) B ob qb nb _ w4 (zg HS4) (by rw [List.length_append]; omega))
  go_wp2_with fail
  refine (zg hcon3).mono ?_
  rintro e w5 ⟨rfl, hS5, hF5⟩
  have HS5 := zi hS5
  have HF5 := zi ((zg HF4).tr hF5)
  have hb5 := (zg HB4).wf hF5 hob
  obtain ⟨⟨a05, a15, a25, a35⟩, b05, b15, b25⟩ := hb5.cells
  clear hS5 hF5 hb5
  have hcon4 := zi (zgQ col (by omega) (by omega) B ob qb nb _ w5 (zg HS5) (by simp only [List.length_append]; omega))
  go_wp2_with fail
  refine (zg hcon4).mono ?_
  rintro e w6 ⟨rfl, hS6, hF6⟩
  have HS6 := zi hS6
  have HF6 := zi ((zg HF5).tr hF6)
  clear hS6 hF6
  go_wp2
  exact bodyPost_end (v := .tuple #[]) (by simp [results, Tryz.results215, go_sem]) rfl ⟨rfl, by rw [zg hp]; exact zg HS6, zg HF6⟩
end Go.Proofs.YtmlkpdbfnffoaaaGreatDoor
