import Derived.Test.YtmlkpdbfnffoaaaGreatDoorGapL
import Derived.Test.YtmlkpdbfnffoaaaGreatDoorGapK
set_option maxHeartbeats 8000000
set_option maxRecDepth 10000
namespace Go.Proofs.YtmlkpdbfnffoaaaGreatDoor
open Go.RowKit
theorem zgz {rs : List Value} {cs : List (List Int × Int)} {v : Value} : ∀ k, v ∈ zam rs cs k → ∃ j, j < k ∧ (v = rV rs j ∨ v = .int .i64 (cW cs j))
 | 0, h => by simp [zam] at h
 | k + 1, h => by
  rw [zam] at h
  rcases List.mem_append.1 h with h | h
  ·obtain ⟨j, hj, e⟩ := zgz k h
   exact ⟨j, by omega, e⟩
  ·simp at h
   exact ⟨k, by omega, h⟩
theorem zak.gap {w : World} {base : Nat} {v : Value} {rs : List Value} {cs : List (List Int × Int)} (h : zak w base v rs cs) {P : Nat} (hP : P < base) :
  ∃ ao cap, v = .slice ao cs.length cap ∧ rs.length = cs.length ∧ (∀ j, j < cs.length → RS P w (rV rs j) (cR cs j)) ∧ (∀ v ∈ zam rs cs cs.length, v.oneCell' = true) ∧ (0 < cs.length → ∃ b off, ao = some ⟨b, off, none⟩ ∧ ∀ j, j < cs.length → w.cell? ⟨b, off + j * 2, none⟩ = some (rV rs j) ∧ w.cell? ⟨b, off + j * 2 + 1, none⟩ = some (.int .i64 (cW cs j))) := by
 obtain ⟨h0, ⟨ys, h1, h2⟩, h3, _⟩ := h
 have hrs : ∀ j, j < cs.length → RS P w (rV rs j) (cR cs j) := fun j hj W' f => zaf (f.owns (h3 j hj) (fun g hg e => by have := ((h3 j hj).lt g hg).1; omega))
 have hone : ∀ v ∈ zam rs cs cs.length, v.oneCell' = true := by
  intro u hu
  obtain ⟨j, hj, e | e⟩ := zgz _ hu
  ·rcases (h3 j hj).2 with ⟨e2, _⟩ | ⟨g, cap, cur, e2, _⟩ <;> rw [e, e2] <;> rfl
  ·rw [e]; rfl
 rcases h1.2 with ⟨rfl, e0⟩ | ⟨g, cap, cur, rfl, hb, hg, hn, hm, hs, ht⟩
 ·exact ⟨none, 0, by rw [e0], h0, hrs, hone, fun hp => by omega⟩
 ·refine ⟨_, cap, rfl, h0, hrs, hone, fun _ => ⟨g, 0, rfl, fun j hj => ?_⟩⟩
  have := h2 j hj
  rw [Nat.zero_add, h1.cellAt _ (by omega), h1.cellAt _ (by omega)]
  exact this
theorem zfY (P : Nat) (cl rl rr : List Value) (A B : List (List Int × Int)) (bh : Int) (k : ByteArray) (u : Value) (W : World) (hP : W.heap[P]? = some (.cells (edC cl (A.length : Int) bh k u) 226 (0, 0))) (hG : zaY P W cl rl rr A B) :
  Calls Tryz.prog 275 #[.pointer (some ⟨P, 0, none⟩)] W fun e w' => e = .returned (.slice (some ⟨P, 0, none⟩) A.length 300) ∧ Ext W w' := by
 have hl := hG.len
 have hf := hG.fit
 obtain ⟨k600, -, -, -, -, -, -⟩ := zaJ hP hl
 obtain ⟨n, hn⟩ : ∃ n, A.length = n := ⟨_, rfl⟩
 rw [hn] at k600 hf ⊢
 have b1 : (n : Int) ≤ 300 := by omega
 clear hP hG hn
 go_enter Tryz.func275, Tryz.ntmps275
 go_wp2
 go_region_law (first | fail)
 all_goals
  go_wp2
  exact bodyPost_ret (v := .slice (some ⟨P, 0, none⟩) n 300) (by simp [results, Tryz.results275, go_sem]) rfl ⟨rfl, (Ext.refl W).drew⟩
theorem zfe (P : Nat) (cl rl rr : List Value) (A B : List (List Int × Int)) (fr : Int) (bh : Nat) (hbh : bh = 300 - B.length) (k : ByteArray) (u : Value) (W : World) (hP : W.heap[P]? = some (.cells (edC cl fr (bh : Int) k u) 226 (0, 0))) (hG : zaY P W cl rl rr A B) :
  Calls Tryz.prog 276 #[.pointer (some ⟨P, 0, none⟩)] W fun e w' => ∃ v, e = .returned v ∧ zaI W v B ∧ Ext W w' := by
 have hl := hG.len
 have hf := hG.fit
 obtain ⟨-, k601, -, -, -, -, -⟩ := zaJ hP hl
 have b1 : (bh : Int) ≤ 300 := by omega
 by_cases h0 : 300 = bh
 ·have hB : B = [] := List.eq_nil_of_length_eq_zero (by omega)
  have HV : Hid (∀ ao c, zaI W (.slice ao 0 c) B) := fun ao c => by
   subst hB
   exact ⟨[], ao, c, rfl, Nat.zero_le _, fun j hj => absurd hj (Nat.not_lt_zero _), fun h => absurd h (Nat.not_lt_zero _)⟩
  clear hP hG hbh hf hB
  subst h0
  go_enter Tryz.func276, Tryz.ntmps276
  go_wp2
  go_region_law (first | fail)
  all_goals
   go_wp2
   exact bodyPost_ret (v := .slice (some ⟨P, 0, none⟩) 0 0) (by simp [results, Tryz.results276, go_sem]) rfl ⟨_, rfl, (zg HV) _ _, (Ext.refl W).drew⟩
 ·have hv := hG.right hP B.length (Nat.le_refl _)
  rw [← hbh] at hv
  rw [show B.length = 300 - bh by omega] at hv
  have HV := zi hv
  clear hP hG hbh hf hv
  go_enter Tryz.func276, Tryz.ntmps276
  go_wp2
  go_region_law (first | fail)
  all_goals
   go_wp2
   exact bodyPost_ret (by simp [results, Tryz.results276, go_sem]) rfl ⟨_, rfl, zg HV, (Ext.refl W).drew⟩
theorem zf7 (P : Nat) (cl rl rr : List Value) (A B : List (List Int × Int)) (bh : Nat) (hbh : bh = 300 - B.length) (k : ByteArray) (u : Value) (W : World) (hP : W.heap[P]? = some (.cells (edC cl (A.length : Int) (bh : Int) k u) 226 (0, 0))) (hG : zaY P W cl rl rr A B) (zA : A.length + zaL A A.length ≤ 16777216) (zB : B.length + zaL B B.length ≤ 16777216) (iA : ∀ j, j < A.length → zbv (cR A j)) (iB : ∀ j, j < B.length → zbv (cR B j)) :
  Calls Tryz.prog 211 #[.pointer (some ⟨P, 0, none⟩)] W fun e w' => e = .returned (.agg #[.string (zv (zac A)), .string (zv (zac B))]) ∧ Ext W w' := by
 have infoS : (Tryz.prog.info? 132).map (·.size) = some 2 := by kernel_rfl
 have hf := hG.fit
 have HL := zi (fun U (hU : Ext W U) => zfY P cl rl rr A B bh k u U (hU.kept hP) (hG.fr (Fr.of_ext hU)))
 have HV := zi (fun U (hU : Ext W U) => (hG.fr (Fr.of_ext hU)).left (hU.kept hP) 300 (by omega))
 have HR := zi (fun U (hU : Ext W U) => zfe P cl rl rr A B A.length bh hbh k u U (hU.kept hP) (hG.fr (Fr.of_ext hU)))
 have IA := zi iA
 have IB := zi iB
 obtain ⟨W0, hW0⟩ : ∃ W0, W0 = W.alloc (.cells #[.string { data := #[] }, .string { data := #[] }] 132) := ⟨_, rfl⟩
 have E0 : Ext W W0 := by rw [hW0]; exact (Ext.refl W).alloc _
 have q0 : W0.heap[W.heap.size]? = some (.cells #[.string { data := #[] }, .string { data := #[] }] 132 (0, 0)) := by rw [hW0]; exact heap_alloc_new W _
 have HE0 := zi E0
 have HQ0 := zi q0
 clear hP hG hbh iA iB E0 q0 hf
 subst hW0
 go_enter Tryz.func211, Tryz.ntmps211
 go_wp2_with fail
 refine ((zg HL) _ (zg HE0)).mono ?_
 rintro e w1 ⟨rfl, E1⟩
 have HE1 := Hid.ht HE0 E1
 have HQ1 := E1.hk HQ0
 clear E1 HE0 HQ0
 go_wp2_with fail
 refine (zcT _ A w1 ((zg HV) _ (zg HE1)) zA (zg IA)).mono ?_
 rintro e w2 ⟨rfl, E2⟩
 have HE2 := Hid.ht HE1 E2
 have HQ2 := E2.hk HQ1
 clear E2 HE1 HQ1
 go_wp2_with fail
 refine ((zg HR) _ (zg HE2)).mono ?_
 rintro e w3 ⟨v3, rfl, hv3, E3⟩
 have HV3 := zi (hv3.ext E3)
 have HE3 := Hid.ht HE2 E3
 have HQ3 := E3.hk HQ2
 clear E3 HE2 HQ2 hv3
 go_wp2_with fail
 refine (zcT v3 B w3 (zg HV3) zB (zg IB)).mono ?_
 rintro e w4 ⟨rfl, E4⟩
 have HE4 := Hid.ht HE3 E4
 have HQ4 := E4.hk HQ3
 clear E4 HE3 HQ3
 go_wp2_with (first
  | (refine zy rfl 132 _ _ rfl rfl (W.heap.size) rfl _ _ _ rfl (zg HQ4) infoS rfl (by simp [Value.oneCell']) ?_; intro U HB hU; have HB9 := zi HB; have HU9 := zi hU; clear HB hU))
 have v0 := zk (zg HB9) 0 _ rfl
 have v1 := zk (zg HB9) 1 _ rfl
 exact bodyPost_ret (v := .agg #[.string (zv (zac A)), .string (zv (zac B))]) (by simp [results, Tryz.results211, go_sem, v0, v1]) rfl ⟨rfl, (zg HU9).ext (zg HE4) (fun q hq => by omega)⟩
def bkF (q : Nat) : Value := .func (.func 258) #[] #[.pointer (some ⟨q, 0, none⟩)]
def zbL (W : World) (q : Nat) (s : ByteArray × ByteArray) : Prop := W.heap[q]? = some (.cells #[.string s.1, .string s.2] 132 (0, 0))
theorem zml : (Tryz.prog.info? 232).map (fun i => (i.zero, i.size, i.bytes)) = some (some .nilFunc, 1, 8) := by kernel_rfl
theorem Fr.off {P : Nat} {S : Nat → Prop} {W0 W w' : World} (h : Fr (fun q => q = P) W0 W) (k : Fr S W w') (hS : ∀ x, S x → x = P ∨ W0.heap.size ≤ x) : Fr (fun q => q = P) W0 w' := by
 refine ⟨k.os.trans h.os, k.tape.trans h.tape, k.output.trans h.output, Nat.le_trans h.size k.size, fun i hi hn => (k.block i (Nat.lt_of_lt_of_le hi h.size) (fun e => ?_)).trans (h.block i hi hn)⟩
 rcases hS i e with e | e
 ·exact hn e
 ·omega
theorem zkP {W : World} {P base n : Nat} {cs : Array Value} {u : Value} {xs : List Value} (hP : W.heap[P]? = some (.cells cs 226 (0, 0))) (hO : W.ownsRow base 232 1 u n xs) : ¬ u.ownBlock = some P := by
 intro e
 rcases hO.2 with ⟨rfl, _⟩ | ⟨g, cap, cur, rfl, hb, hg, _⟩
 ·simp [Value.ownBlock] at e
 ·simp [Value.ownBlock] at e
  subst e
  rw [hP] at hg
  simp at hg
theorem zbL.fr {W w' : World} {q : Nat} {s : ByteArray × ByteArray} {S : Nat → Prop} (h : zbL W q s) (f : Fr S W w') (hq : ¬ S q) : zbL w' q s := f.kept h hq
theorem zbL.off {W : World} {q : Nat} {s : ByteArray × ByteArray} (h : zbL W q s) {P base n : Nat} {cs : Array Value} {u : Value} {xs : List Value} (hP : W.heap[P]? = some (.cells cs 226 (0, 0))) (hO : W.ownsRow base 232 1 u n xs) : ¬ (q = P ∨ u.ownBlock = some q) := by
 rintro (e | e)
 ·subst e
  unfold zbL at h
  rw [h] at hP
  simp at hP
 ·rcases hO.2 with ⟨rfl, _⟩ | ⟨g, cap, cur, rfl, hb, hg, _⟩
  ·simp [Value.ownBlock] at e
  ·simp [Value.ownBlock] at e
   subst e
   unfold zbL at h
   rw [h] at hg
   simp at hg
theorem zcb {w : World} {b : Nat} {T : TypeId} {sz : Nat} {v : Value} {n : Nat} {xs : List Value} (h : w.ownsRow b T sz v n xs) : ∃ a c, v = .slice a n c := by
 rcases h.2 with ⟨rfl, h0⟩ | ⟨g, c, _, rfl, _⟩
 ·exact ⟨none, 0, by rw [h0]⟩
 ·exact ⟨_, c, rfl⟩
theorem zng (q : Nat) (s : ByteArray × ByteArray) (W : World) (h : zbL W q s) : Calls Tryz.prog 258 #[.pointer (some ⟨q, 0, none⟩)] W fun e w' => e = .returned (.agg #[.string s.1, .string s.2]) ∧ Ext W w' := by
 have c0 := zk h 0 _ rfl
 have c1 := zk h 1 _ rfl
 have hlt : q < W.heap.size := (Array.getElem?_eq_some_iff.1 h).1
 have E0 : Ext W (W.alloc (.cells #[.string { data := #[] }, .string { data := #[] }] 132)) := (Ext.refl W).alloc _
 have infoS : (Tryz.prog.info? 132).map (·.size) = some 2 := by kernel_rfl
 have HA := zi (E0.kept h)
 have HN := zi (heap_alloc_new W (.cells #[.string { data := #[] }, .string { data := #[] }] 132))
 clear h
 go_enter Tryz.func258, Tryz.ntmps258
 go_wp2_with (first
  | (refine zm rfl 132 _ rfl q rfl _ _ _ _ (zg HA) Tryz.underlying132 rfl infoS ?_)
  | (refine zy rfl 132 _ _ rfl rfl (W.heap.size) rfl _ _ _ rfl (zg HN) infoS rfl (by simp [Value.oneCell']) ?_; intro U HB hU; have HB9 := zi HB; have HU9 := zi hU; clear HB hU))
 have v0 := zk (zg HB9) 0 _ rfl
 have v1 := zk (zg HB9) 1 _ rfl
 exact bodyPost_ret (v := .agg #[.string s.1, .string s.2]) (by simp [results, Tryz.results258, go_sem, v0, v1]) rfl ⟨rfl, (zg HU9).ext E0 (fun q hq => by omega)⟩
theorem zjI (P : Nat) (cl : List Value) (f0 b0 : Int) (k : ByteArray) (u : Value) (qs : List Nat) (base : Nat) (a b : ByteArray) (W : World) (hP : W.heap[P]? = some (.cells (edC cl f0 b0 k u) 226 (0, 0))) (hl : cl.length = 600) (hO : W.ownsRow base 232 1 u qs.length (qs.map bkF)) (hb : base ≤ W.heap.size) (hn : qs.length ≤ 50) :
    Calls Tryz.prog 209 #[.pointer (some ⟨P, 0, none⟩), .agg #[.string a, .string b]] W fun e w' => ∃ u' q, e = .returned (.tuple #[]) ∧ w'.heap[P]? = some (.cells (edC cl f0 b0 k u') 226 (0, 0)) ∧ w'.ownsRow base 232 1 u' (qs ++ [q]).length ((qs ++ [q]).map bkF) ∧ zbL w' q (a, b) ∧ Fr (fun x => x = P ∨ u.ownBlock = some x) W w' := by
  obtain ⟨ic, hic, hc0, hc1, hc2⟩ := info_parts zml
  have hPl : P < W.heap.size := (Array.getElem?_eq_some_iff.1 hP).1
  have c603 := (zaJ hP hl).2.2.2.1
  have hmf : ∀ (fn : Fn) (first cap : Array Value) (w : World), (Instr.makeFunc fn first cap).run Tryz.prog w = .ok (.func fn first cap) w := fun _ _ _ _ => rfl
  have hoff := zkP hP hO
  have HP := zi hP
  have HO := zi hO
  have hne : ¬ W.heap.size = P := by omega
  have hsr := Src.made (w := W.alloc (.cells #[.string a, .string b] 132)) (size := 1) [bkF W.heap.size] 1 232 rfl (by simp [Value.oneCell', bkF])
  rw [show (W.alloc (.cells #[.string a, .string b] 132)).heap.size = W.heap.size + 1 by simp] at hsr
  have HSR := zi hsr
  clear hP hO hsr
  go_enter Tryz.func209, Tryz.ntmps209
  go_wp2_with (at_builtin; go_loud (
     refine zao rfl _ _ 224 rfl base 232 ic .nilFunc 1 8 Tryz.underlying224 hic hc0 hc1 hc2 rfl (by decide) u qs.length (qs.map bkF) rfl (((zg HO).alloc _).alloc _) _ 1 [bkF W.heap.size] rfl (zg HSR) (by unfold maxLen; omega) (by omega) (by simp; omega) ?_
     intro v5 w5 o5 G5 _
     obtain ⟨a5, z5, rfl⟩ := zcb o5
     have X5 : Ext W ((W.alloc (.cells #[.string a, .string b] 132)).alloc (.cells #[bkF W.heap.size] 232)) := ((Ext.refl W).alloc _).alloc _
     have F5 : Fr (fun x => u.ownBlock = some x) W w5 := Fr.grown (Fr.of_ext X5) G5 (fun x hx => hx)
     have p5 := F5.kept (zg HP) hoff
     have s5 : zbL w5 W.heap.size (a, b) := Fr.kept (S := fun x => u.ownBlock = some x) (Fr.grown (Fr.refl _ _) G5 (fun x hx => hx)) (((Ext.refl _).alloc _).kept (heap_alloc_new W _)) (fun e => by have := ((zg HO).lt _ e).2; omega)
     have k5 := (zaJ p5 hl).2.2.2.1
     have g5 := (zaJ p5 hl).2.2.2.2.2.2
     have HO5 := zi o5
     have HP5 := zi p5
     have HS5 := zi s5
     have HF5 := zi F5
     clear o5 G5 X5 p5 s5 F5))
  have p6 := heap_setCell_same w5 P 603 _ _ (.slice a5 (qs.length + 1) z5) (zg HP5)
  have e6 : (edC cl f0 b0 k u).setIfInBounds 603 (.slice a5 (qs.length + 1) z5) = edC cl f0 b0 k (.slice a5 (qs.length + 1) z5) := by unfold edC; simp [hl]
  rw [e6] at p6
  have F6 : Fr (fun x => x = P) w5 (w5.setCell ⟨P, 603, none⟩ (.slice a5 (qs.length + 1) z5)) := Fr.setCell (S := fun q => q = P) (Fr.refl _ w5) (a := ⟨P, 603, none⟩) rfl _
  have eL : qs.map bkF ++ [bkF W.heap.size] = (qs ++ [W.heap.size]).map bkF := by simp
  have eN : qs.length + 1 = (qs ++ [W.heap.size]).length := by simp
  have o6 := F6.owns (zg HO5) (fun g hg e => zkP (zg HP5) (zg HO5) (by rw [hg, e]))
  rw [eL] at o6
  exact bodyPost_end (v := .tuple #[]) (by simp [results, Tryz.results209, go_sem]) rfl ⟨_, W.heap.size, rfl, p6, by rw [← eN]; exact o6, (zg HS5).fr F6 (fun e => hne e), ((zg HF5).mono (fun x hx => .inr hx)).tr (F6.mono (fun x hx => .inl hx))⟩
theorem zi5 (P : Nat) (cl : List Value) (f0 b0 : Int) (k : ByteArray) (u : Value) (W : World) (hP : W.heap[P]? = some (.cells (edC cl f0 b0 k u) 226 (0, 0))) (hl : cl.length = 600) (h1 : ∀ v ∈ cl, v.oneCell' = true) (L R : List Int) (hL : zaj L) (hR : zaj R) (zL : L.length ≤ 8000000) (zR : R.length ≤ 8000000) (hfit : (zd L).length + (zd R).length ≤ 300)
  (hT : ∀ W', Fr (fun q => q = P) W W' → zcB W') :
  Calls Tryz.prog 208 #[.pointer (some ⟨P, 0, none⟩), .agg #[.string (zv L), .string (zv R)]] W fun e w' => ∃ cl' rl rr, e = .returned (.tuple #[]) ∧ w'.heap[P]? = some (.cells (edC cl' ((zd L).length : Int) ((300 - (zd R).length : Nat) : Int) k u) 226 (0, 0)) ∧ zaY P w' cl' rl rr (zd L) (zd R) ∧ Fr (fun q => q = P) W w' := by
 have hPl : P < W.heap.size := (Array.getElem?_eq_some_iff.1 hP).1
 obtain ⟨c0, c1, -, -, g0, g1, -⟩ := zaJ hP hl
 have p1 := heap_setCell_same W P 600 _ _ (.int .i64 0) hP
 rw [zed hl] at p1
 have c1' := (zaJ p1 hl).2.1
 have p2 := heap_setCell_same _ P 601 _ _ (.int .i64 300) p1
 rw [zgE hl] at p2
 have F2 : Fr (fun q => q = P) W ((W.setCell ⟨P, 600, none⟩ (.int .i64 0)).setCell ⟨P, 601, none⟩ (.int .i64 300)) := Fr.setCell (S := fun q => q = P) (Fr.setCell (S := fun q => q = P) (Fr.refl _ W) (a := ⟨P, 600, none⟩) rfl _) (a := ⟨P, 601, none⟩) rfl _
 have zz : ((W.setCell ⟨P, 600, none⟩ (.int .i64 0)).setCell ⟨P, 601, none⟩ (.int .i64 300)).heap.size = W.heap.size := by simp [World.setCell]
 obtain ⟨U, hU⟩ : ∃ U, U = (((W.setCell ⟨P, 600, none⟩ (.int .i64 0)).setCell ⟨P, 601, none⟩ (.int .i64 300)).alloc (.cells #[.string (zv L), .string (zv R)] 132)) := ⟨_, rfl⟩
 have E0 : Ext ((W.setCell ⟨P, 600, none⟩ (.int .i64 0)).setCell ⟨P, 601, none⟩ (.int .i64 300)) U := by rw [hU]; exact (Ext.refl _).alloc _
 have FW2 : Fr (fun q => q = P) W U := F2.tr (Fr.of_ext E0)
 have q2 : U.heap[W.heap.size]? = some (.cells #[.string (zv L), .string (zv R)] 132 (0, 0)) := by
  have := heap_alloc_new ((W.setCell ⟨P, 600, none⟩ (.int .i64 0)).setCell ⟨P, 601, none⟩ (.int .i64 300)) (.cells #[.string (zv L), .string (zv R)] 132)
  rw [zz, ← hU] at this
  exact this
 have p3 := E0.kept p2
 have s2 := zk q2 1 _ rfl
 have hG2 : zaY P U cl [] [] [] [] := ⟨hl, by simp, rfl, rfl, fun j hj => absurd hj (Nat.not_lt_zero _), fun j hj => absurd hj (Nat.not_lt_zero _), fun j hj => absurd hj (Nat.not_lt_zero _), fun j hj => absurd hj (Nat.not_lt_zero _), h1⟩
 have sz2 : P < U.heap.size := (Array.getElem?_eq_some_iff.1 p3).1
 have HP2 := zi p3
 have HF2 := zi FW2
 have HQ2 := zi q2
 have HG2 := zi hG2
 have HT := zi hT
 clear hP p1 p2 p3 q2 F2 FW2 hG2 hT E0 zz
 subst hU
 go_enter Tryz.func208, Tryz.ntmps208
 go_wp2_with fail
 refine (zbG R hR _ zR ((zg HT) _ (zg HF2))).mono ?_
 rintro e w3 ⟨v3, rs3, rfl, o3, E3⟩
 obtain ⟨ao, cap, rfl, hrs, hrr, hone, hx⟩ := o3.gap sz2
 have HF3 := zi ((zg HF2).tr (Fr.of_ext E3))
 have HQ3 := E3.hk HQ2
 have HI := zi (zdG P cl [] [] [] [] (zd R) 300 rfl k u _ rs3 w3 (E3.kept (zg HP2)) ((zg HG2).fr (Fr.of_ext E3)) hrs (by simp; omega) hrr hone ao cap rfl hx)
 have HRS := zi hrs
 clear o3 hrr hone hx hrs HP2 HF2 HQ2 HG2
 go_wp2_with fail
 refine (zg HI).mono ?_
 rintro e w4 ⟨cl4, rfl, p4, G4, F4⟩
 rw [List.nil_append, List.nil_append] at G4
 rw [List.nil_append] at p4
 have c4 := (zaJ p4 G4.len).1
 have HF4 := zi ((zg HF3).tr F4)
 have HQ4 := zi (F4.kept (zg HQ3) (by show ¬ W.heap.size = P; omega))
 have HL := zi (zkV P cl4 [] rs3 [] [] (zd R) [] 300 (zd R).length (zd R).length rfl (by simp) rfl k u w4 p4 G4 rfl (zg HRS))
 clear p4 G4 F4 HF3 HQ3 HI HRS
 go_wp2_with fail
 refine (zg HL).mono ?_
 rintro e w5 ⟨cl5, rfl, p5, G5, F5⟩
 rw [List.append_nil, List.append_nil] at G5
 rw [List.append_nil] at p5
 have HF5 := zi ((zg HF4).tr F5)
 have q5 := F5.kept (zg HQ4) (by show ¬ W.heap.size = P; omega)
 have s5 := zk q5 0 _ rfl
 have sz5 : P < w5.heap.size := (Array.getElem?_eq_some_iff.1 p5).1
 have HP5 := zi p5
 have HG5 := zi G5
 clear p5 G5 F5 q5 HF4 HQ4 HL
 go_wp2_with fail
 refine (zbG L hL _ zL ((zg HT) _ (zg HF5))).mono ?_
 rintro e w6 ⟨v6, rs6, rfl, o6, E6⟩
 obtain ⟨ao6, cap6, rfl, hrs, hrr, hone, hx⟩ := o6.gap sz5
 have HF6 := zi ((zg HF5).tr (Fr.of_ext E6))
 have HI := zi (zdG P cl5 [] rs3 [] (zd R) (zd L) (300 - (zd R).length) rfl k u _ rs6 w6 (E6.kept (zg HP5)) ((zg HG5).fr (Fr.of_ext E6)) hrs (by simp; omega) hrr hone ao6 cap6 rfl hx)
 clear o6 hrr hone hx hrs HP5 HF5 HG5
 go_wp2_with fail
 refine (zg HI).mono ?_
 rintro e w7 ⟨cl7, rfl, p7, G7, F7⟩
 rw [List.nil_append, List.nil_append] at G7
 rw [List.nil_append] at p7
 have HP7 := zi p7
 have HG7 := zi G7
 have HF7 := zi ((zg HF6).tr F7)
 clear p7 G7 F7 HI HF6
 go_wp2
 exact bodyPost_end (v := .tuple #[]) (by simp [results, Tryz.results208, go_sem]) rfl ⟨_, _, _, rfl, zg HP7, zg HG7, zg HF7⟩
def zg9 (W : World) (u : Value) (un : List (ByteArray × ByteArray)) : Prop := ∃ qs : List Nat, qs.length = un.length ∧ zah W u un.length (fun j => bkF (qs[j]?.getD 0)) ∧ ∀ (j q : Nat) (s : ByteArray × ByteArray), qs[j]? = some q → un[j]? = some s → zbL W q s
def BackS (P : Nat) (W : World) (u : Value) (un : List (ByteArray × ByteArray)) : Prop := ∀ W', Fr (fun q => q = P) W W' → zg9 W' u un
def zbn (W : World) (base : Nat) (u : Value) (qs : List Nat) (un : List (ByteArray × ByteArray)) : Prop := qs.length = un.length ∧ W.ownsRow base 232 1 u qs.length (qs.map bkF) ∧ ∀ (j q : Nat) (s : ByteArray × ByteArray), qs[j]? = some q → un[j]? = some s → zbL W q s
theorem zni {cl : List Value} {fr bh : Int} {k : ByteArray} {u u' : Value} (h : cl.length = 600) : (edC cl fr bh k u).setIfInBounds 603 u' = edC cl fr bh k u' := by
 unfold edC
 simp [h]
theorem zbn.push {W w' : World} {base P q : Nat} {u u' : Value} {qs : List Nat} {un : List (ByteArray × ByteArray)} {s : ByteArray × ByteArray} {cs : Array Value} (h : zbn W base u qs un) (hP : W.heap[P]? = some (.cells cs 226 (0, 0))) (f : Fr (fun x => x = P ∨ u.ownBlock = some x) W w') (o : w'.ownsRow base 232 1 u' (qs ++ [q]).length ((qs ++ [q]).map bkF)) (b : zbL w' q s) : zbn w' base u' (qs ++ [q]) (un ++ [s]) := by
 obtain ⟨h1, h2, h3⟩ := h
 refine ⟨by simp [h1], o, fun j q' s' hq hs => ?_⟩
 by_cases e : j < qs.length
 ·rw [List.getElem?_append_left e] at hq
  rw [List.getElem?_append_left (by omega)] at hs
  have hb := h3 j q' s' hq hs
  exact hb.fr f (hb.off hP h2)
 ·have hj : j = qs.length := by have := (List.getElem?_eq_some_iff.1 hq).1; simp at this; omega
  subst hj
  rw [List.getElem?_append_right (Nat.le_refl _)] at hq
  rw [h1, List.getElem?_append_right (Nat.le_refl _)] at hs
  simp at hq hs
  subst hq
  subst hs
  exact b
theorem zbn.read {W : World} {base : Nat} {u : Value} {qs : List Nat} {un : List (ByteArray × ByteArray)} (h : zbn W base u qs un) : zg9 W u un := by
 obtain ⟨h1, h2, h3⟩ := h
 refine ⟨qs, h1, ?_, h3⟩
 rcases h2.2 with ⟨e, e0⟩ | ⟨g, cap, cur, e, hb, hg, hn, _⟩
 ·exact ⟨none, 0, by rw [e, ← h1, e0], by omega, fun hp => by omega⟩
 ·refine ⟨_, cap, by rw [e, ← h1], by omega, fun _ => ⟨g, 0, rfl, fun j hj => ?_⟩⟩
  rw [e] at h2
  have := h2.cellAt j (by omega)
  rw [Nat.zero_add, this]
  simp [List.getElem?_eq_getElem (show j < qs.length by omega)]
theorem zbn.drop {W : World} {base g cap : Nat} {qs : List Nat} {un : List (ByteArray × ByteArray)} (h : zbn W base (.slice (some ⟨g, 0, none⟩) qs.length cap) qs un) (h0 : 0 < qs.length) (hc : qs.length ≤ cap) : zg9 W (.slice (some ⟨g, 1, none⟩) (qs.length - 1) (cap - 1)) (un.drop 1) := by
 obtain ⟨h1, h2, h3⟩ := h
 refine ⟨qs.drop 1, by simp [h1], ⟨_, cap - 1, by rw [List.length_drop, h1], by rw [List.length_drop]; omega, fun _ => ⟨g, 1, rfl, fun j hj => ?_⟩⟩, fun j q s hq hs => ?_⟩
 ·rw [List.length_drop] at hj
  have := h2.cellAt (1 + j) (by omega)
  rw [this, Nat.add_comm 1 j]
  simp [List.getElem?_eq_getElem (show j + 1 < qs.length by omega)]
 ·rw [List.getElem?_drop] at hq hs
  exact h3 _ q s hq hs
theorem zbn.ed {W w' : World} {base P : Nat} {u : Value} {qs : List Nat} {un : List (ByteArray × ByteArray)} {cs : Array Value} (h : zbn W base u qs un) (hP : W.heap[P]? = some (.cells cs 226 (0, 0))) (f : Fr (fun x => x = P) W w') : zbn w' base u qs un :=
 ⟨h.1, f.owns h.2.1 (fun g hg e => zkP hP h.2.1 (by rw [hg, e])), fun j q s a b => (h.2.2 j q s a b).fr f (fun e => (h.2.2 j q s a b).off hP h.2.1 (.inl e))⟩
theorem zks (P : Nat) (cl rl rr : List Value) (A B : List (List Int × Int)) (bh : Nat) (hbh : bh = 300 - B.length) (k : ByteArray) (u : Value) (qs : List Nat) (un : List (ByteArray × ByteArray)) (base : Nat) (W : World) (hP : W.heap[P]? = some (.cells (edC cl (A.length : Int) (bh : Int) k u) 226 (0, 0))) (hG : zaY P W cl rl rr A B) (zA : A.length + zaL A A.length ≤ 16777216) (zB : B.length + zaL B B.length ≤ 16777216) (iA : ∀ j, j < A.length → zbv (cR A j)) (iB : ∀ j, j < B.length → zbv (cR B j)) (hU : zbn W base u qs un) (hb : base ≤ W.heap.size) (hn : un.length ≤ 50) :
  Calls Tryz.prog 298 #[.pointer (some ⟨P, 0, none⟩)] W fun e w' => ∃ u', e = .returned (.tuple #[]) ∧ w'.heap[P]? = some (.cells (edC cl (A.length : Int) (bh : Int) k u') 226 (0, 0)) ∧ BackS P w' u' (zbk un (zv (zac A), zv (zac B))) ∧ Fr (fun x => x = P ∨ u.ownBlock = some x) W w' := by
 have hl := hG.len
 have HS := zi (zf7 P cl rl rr A B bh hbh k u W hP hG zA zB iA iB)
 have HH := zi (fun w (E : Ext W w) => zjI P cl (A.length : Int) (bh : Int) k u qs base (zv (zac A)) (zv (zac B)) w (E.kept hP) hl (E.owns hU.2.1) (Nat.le_trans hb E.size) (by rw [hU.1]; exact hn))
 have HU := zi (fun w (E : Ext W w) => (show zbn w base u qs un from ⟨hU.1, E.owns hU.2.1, fun j q s h1 h2 => E.kept (hU.2.2 j q s h1 h2)⟩))
 have HP := zi hP
 have hq := hU.1
 clear hP hG hbh zA zB iA iB hU
 go_enter Tryz.func298, Tryz.ntmps298
 go_wp2_with fail
 refine (zg HS).mono ?_
 rintro e w1 ⟨rfl, E1⟩
 have HE1 := zi E1
 clear E1 HS
 go_wp2_with fail
 refine ((zg HH) _ (zg HE1)).mono ?_
 rintro e w2 ⟨u2, q2, rfl, p2, o2, b2, F2⟩
 have HB := zi (((zg HU) _ (zg HE1)).push ((zg HE1).kept (zg HP)) F2 o2 b2)
 have HF := zi ((Fr.of_ext (zg HE1)).tr F2)
 have HP2 := zi p2
 have hql : (qs ++ [q2]).length = un.length + 1 := by simp [hq]
 have k2 := (zaJ p2 hl).2.2.2.1
 have f2 := (zaJ p2 hl).2.2.2.2.2.2
 rcases o2.2 with ⟨-, e0⟩ | ⟨g, cap, cur, rfl, -, -, hcap, -⟩
 ·simp at e0
 by_cases h50 : un.length = 50
 ·have hu : zbk un (zv (zac A), zv (zac B)) = (un ++ [(zv (zac A), zv (zac B))]).drop 1 := by unfold zbk; rw [if_pos (by omega)]
  have F3 : Fr (fun x => x = P) w2 (w2.setCell ⟨P, 603, none⟩ (.slice (some ⟨g, 1, none⟩) 50 (cap - 1))) := Fr.setCell (S := fun q => q = P) (Fr.refl _ w2) (a := ⟨P, 603, none⟩) rfl _
  have HR := zi (fun w' (f : Fr (fun q => q = P) (w2.setCell ⟨P, 603, none⟩ (.slice (some ⟨g, 1, none⟩) 50 (cap - 1))) w') => ((zg HB).ed (zg HP2) (F3.tr f)).drop (by omega) hcap)
  rw [hql, h50, ← hu] at HR
  have p3 := heap_setCell_same w2 P 603 _ _ (.slice (some ⟨g, 1, none⟩) 50 (cap - 1)) (zg HP2)
  rw [zni hl] at p3
  rw [hql, h50] at k2 hcap
  have HP3 := zi p3
  have HF3 := zi ((zg HF).tr (F3.mono (fun x hx => .inl hx)))
  have c1 : ¬ cap = 1 := by omega
  have c2 : ¬ cap = 0 := by omega
  have c3 : (1 : Int) ≤ (cap : Int) := by omega
  clear p2 o2 b2 F2 p3 HH HU HE1 HB hu hq hql F3 HP2 HF
  go_wp2
  exact bodyPost_end (v := .tuple #[]) (by simp [results, Tryz.results298, go_sem]) rfl ⟨_, rfl, zg HP3, zg HR, zg HF3⟩
 ·have HR := zi (fun w' (f : Fr (fun q => q = P) w2 w') => ((zg HB).ed (zg HP2) f).read)
  have hu : zbk un (zv (zac A), zv (zac B)) = un ++ [(zv (zac A), zv (zac B))] := by unfold zbk; rw [if_neg (by omega)]
  rw [← hu] at HR
  have hlt : ¬ (50 : Int) < ((un.length + 1 : Nat) : Int) := by omega
  clear p2 o2 b2 F2 HH HU HE1 HB hu hq
  rw [hql] at k2 HP2 HR hcap
  have hlt2 : ¬ 50 < un.length + 1 := by omega
  clear hql
  obtain ⟨m, hm⟩ : ∃ m, un.length + 1 = m := ⟨_, rfl⟩
  rw [hm] at k2 HP2 HR hcap hlt hlt2
  go_wp2
  exact bodyPost_end (v := .tuple #[]) (by simp [results, Tryz.results298, go_sem]) rfl ⟨_, rfl, zg HP2, zg HR, zg HF⟩
def cl0 : List Value := (List.replicate 300 [Value.slice none 0 0, Value.int .i64 0]).flatten
theorem cl0_len : cl0.length = 600 := by kernel_rfl
theorem cl0_one : ∀ v ∈ cl0, v.oneCell' = true := by
 intro v hv
 unfold cl0 at hv
 obtain ⟨l, hl, hv⟩ := List.mem_flatten.1 hv
 rw [List.eq_of_mem_replicate hl] at hv
 simp at hv
 rcases hv with rfl | rfl <;> rfl
theorem edZero (k : ByteArray) : Tryz.zeroCells226.setIfInBounds 602 (.string k) = edC cl0 0 0 k (.slice none 0 0) := by kernel_rfl
theorem zhC (L R : List Int) (hL : zaj L) (hR : zaj R) (zL : L.length ≤ 8000000) (zR : R.length ≤ 8000000) (hfit : (zd L).length + (zd R).length ≤ 300) (k : ByteArray) (v : Value) (n : Nat) (tx hf : Nat → ByteArray) (w : World) (hv : zaH w v n (fun j => .string (tx j)) (fun j => .string (hf j))) (hn : n ≤ 50) (hT : ∀ w', Ext w w' → zcB w') :
    Calls Tryz.prog 156 #[.agg #[.string (zv L), .string (zv R), .string k, v]] w fun e w' => ∃ P cl rl rr u qs base, e = .returned (.pointer (some ⟨P, 0, none⟩)) ∧ w'.heap[P]? = some (.cells (edC cl ((zd L).length : Int) ((300 - (zd R).length : Nat) : Int) k u) 226 (0, 0)) ∧ (∀ W', Fr (fun q => q = P ∨ base ≤ q) w' W' → zaY P W' cl rl rr (zd L) (zd R)) ∧ zbn w' base u qs (unL tx hf n) ∧ w.heap.size ≤ P ∧ w.heap.size ≤ base ∧ base ≤ w'.heap.size ∧ Ext w w' := by
  obtain ⟨ao, ca, rfl, hca, hxa⟩ := hv
  have HX := zi hxa
  have HT := zi hT
  clear hxa hT
  go_enter Tryz.func156, Tryz.ntmps156
  go_wp2
  rw [edZero]
  have zl := cl0_len
  have zo := cl0_one
  generalize cl0 = cz at zl zo ⊢
  obtain ⟨W0, hW0⟩ : ∃ U, U = (w.alloc (.cells #[.string (zv L), .string (zv R), .string k, .slice ao n ca] 37)).alloc (.cells (edC cz 0 0 k (.slice none 0 0)) 226) := ⟨_, rfl⟩
  rw [← hW0]
  obtain ⟨P, hPd⟩ : ∃ P, P = w.heap.size + 1 := ⟨_, rfl⟩
  have E0 : Ext w W0 := by rw [hW0]; exact ((Ext.refl w).alloc _).alloc _
  have p0 : W0.heap[P]? = some (.cells (edC cz 0 0 k (.slice none 0 0)) 226 (0, 0)) := by
    have h := heap_alloc_new (w.alloc (.cells #[.string (zv L), .string (zv R), .string k, .slice ao n ca] 37)) (.cells (edC cz 0 0 k (.slice none 0 0)) 226)
    rw [show (w.alloc (.cells #[.string (zv L), .string (zv R), .string k, .slice ao n ca] 37)).heap.size = P by rw [hPd]; simp, ← hW0] at h
    exact h
  have l0 : W0.heap[w.heap.size]? = some (.cells #[.string (zv L), .string (zv R), .string k, .slice ao n ca] 37 (0, 0)) := by rw [hW0]; exact ((Ext.refl _).alloc _).kept (heap_alloc_new w _)
  rw [← hPd]
  have c0 := zk l0 0 _ rfl
  have c1 := zk l0 1 _ rfl
  have HE0 := zi E0
  have ZO := zi zo
  clear zo
  have HL0 := zi l0
  have HLd := zi (fun W (E : Ext W0 W) => zi5 P cz 0 0 k (.slice none 0 0) W (E.kept p0) zl (zg ZO) L R hL hR zL zR hfit (fun W' f => (zg HT) W' (f.ext (E0.trans E) (fun q hq => by omega))))
  clear E0 p0 l0 hW0
  have hPw : w.heap.size < P := by omega
  clear HT hL hR zL zR hfit ZO hPd
  go_region_held3 (fun W => W.cell? ⟨w.heap.size, 0, none⟩ = some (.string (zv L)) ∧ W.cell? ⟨w.heap.size, 1, none⟩ = some (.string (zv R))) (first | exact ⟨c0, c1⟩ | exact ⟨c0', c1'⟩) (first
    | (go_at_call 208
       refine ((zg HLd) _ (Ext.refl W0).drew).mono ?_
       rintro e w1 ⟨cl1, rl1, rr1, rfl, p1, G1, F1⟩
       have F1' := (Fr.of_ext (Ext.refl W0).drew).tr F1
       have l1 := F1'.kept (zg HL0) (by show ¬ w.heap.size = P; omega)
       have c0' := zk l1 0 _ rfl
       have c1' := zk l1 1 _ rfl
       have c3 := zk l1 3 _ rfl
       have HP1 := zi p1
       have HG1 := zi G1
       have HE1 := zi (F1'.ext (zg HE0) (fun q hq => by omega))
       have hsz1 := (F1'.ext (zg HE0) (fun q hq => by omega)).size
       clear p1 G1 F1 F1' l1))
  clear HLd HL0 HE0
  have hPl : P < w1.heap.size := (Array.getElem?_eq_some_iff.1 (zg HP1)).1
  have hl1 := (zg HG1).len
  go_wp2
  go_loopw [22] (fun i wr => ∃ (j : Nat) (u : Value) (qs : List Nat), j ≤ n ∧ i = .int .i64 j ∧ Hid (wr.heap[P]? = some (.cells (edC cl1 ((zd L).length : Int) ((300 - (zd R).length : Nat) : Int) k u) 226 (0, 0))) ∧ Hid (zbn wr w1.heap.size u qs (unL tx hf j)) ∧ Hid (Fr (fun q => q = P) w1 wr)) (fun i _ => n - (intOf i).toNat)
  case atStart => exact ⟨0, _, [], Nat.zero_le _, rfl, HP1, zi ⟨rfl, zbp _ _ _ _, fun j q s h _ => by simp at h⟩, zi (Fr.refl _ _)⟩
  case round =>
    obtain ⟨j, u, qs, hj, rfl, HPj, HBj, HFj⟩ := hrel
    have hE := (zg HFj).ext (zg HE1) (fun q hq => by omega)
    have hqs : qs.length = j := by have := (zg HBj).1; rwa [zca] at this
    by_cases hlt : j < n
    · obtain ⟨b, off, hao, hc⟩ := (zg HX) (by omega)
      subst hao
      have g1 := hE.cell (hc j hlt).1
      have g2 := hE.cell (hc j hlt).2
      have bj : (j : Int) < (n : Int) := by omega
      have HH := zi (fun W (E : Ext wr W) => zjI P cl1 ((zd L).length : Int) ((300 - (zd R).length : Nat) : Int) k u qs w1.heap.size (tx j) (hf j) W (E.kept (zg HPj)) hl1 (E.owns (zg HBj).2.1) (Nat.le_trans (zg HFj).size E.size) (by omega))
      have HBE := zi (fun W (E : Ext wr W) => (show zbn W w1.heap.size u qs (unL tx hf j) from ⟨(zg HBj).1, E.owns (zg HBj).2.1, fun j q s h1 h2 => E.kept ((zg HBj).2.2 j q s h1 h2)⟩))
      clear hc hE hqs
      go_wp2_with fail
      refine ((zg HH) _ ((Ext.refl wr).alloc _)).mono ?_
      rintro e w2 ⟨u2, q2, rfl, p2, o2, b2, F2⟩
      have HB2 := zi (((zg HBE) _ ((Ext.refl wr).alloc _)).push (((Ext.refl wr).alloc _).kept (zg HPj)) F2 o2 b2)
      rw [← zm1] at HB2
      have HP2 := zi p2
      have HF2 := zi (Fr.off ((zg HFj).tr (Fr.of_ext ((Ext.refl wr).alloc _))) F2 (fun x hx => by
        rcases hx with hx | hx
        · exact .inl hx
        · exact .inr ((zg HBj).2.1.lt _ hx).1))
      clear p2 o2 b2 F2 HH HBE g1 g2
      go_wp2
      go_roundw
      case rel => exact ⟨j + 1, u2, qs ++ [q2], by omega, by go_num, HP2, HB2, HF2⟩
      case measure => simp [intOf]; omega
    · obtain rfl : j = n := by omega
      have hb9 : ¬ (j : Int) < (j : Int) := by omega
      go_wp2
      exact bodyPost_ret (v := .pointer (some ⟨P, 0, none⟩)) (by simp [results, Tryz.results156, go_sem]) rfl ⟨P, rfl, cl1, rl1, rr1, u, zg HPj, qs, w1.heap.size, fun W' f => (zg HG1).fr (Fr.off (zg HFj) f (fun x hx => hx)), zg HBj, Nat.le_of_lt hPw, hsz1, (zg HFj).size, hE⟩
theorem zk5 (L : List Int) : (zd L).length ≤ (zp L).length := zc2 _ _
theorem zlf (L : List Int) (h : L.length ≤ 8000000) : (zd L).length + zaL (zd L) (zd L).length ≤ 16777216 := zb7 _ (by have := zaN L; omega)
theorem zle (L : List Int) : ∀ j, j < (zd L).length → zbv (cR (zd L) j) := fun j _ => zdD _ _ j
def CkC (A : List (List Int × Int)) : Prop := A.length + zaL A A.length ≤ 16777216 ∧ ∀ j, j < A.length → zbv (cR A j)
structure Ed0 (P base : Nat) (W : World) (k : ByteArray) (u : Value) (qs : List Nat) (un : List (ByteArray × ByteArray)) (A B : List (List Int × Int)) (cl rl rr : List Value) : Prop where
 blk : W.heap[P]? = some (.cells (edC cl (A.length : Int) ((300 - B.length : Nat) : Int) k u) 226 (0, 0))
 gap : ∀ W', Fr (fun q => q = P ∨ base ≤ q) W W' → zaY P W' cl rl rr A B
 bk : zbn W base u qs un
 hb : base ≤ W.heap.size
 ca : CkC A
 cb : CkC B
 hn : un.length ≤ 50
def Ed1 (P : Nat) (W : World) (k : ByteArray) (un : List (ByteArray × ByteArray)) (A B : List (List Int × Int)) : Prop := ∃ cl rl rr u, W.heap[P]? = some (.cells (edC cl (A.length : Int) ((300 - B.length : Nat) : Int) k u) 226 (0, 0)) ∧ zaY P W cl rl rr A B ∧ zg9 W u un
def EdR (P base : Nat) (W w' : World) (k : ByteArray) (un : List (ByteArray × ByteArray)) (A B : List (List Int × Int)) (d : Int) (e : Ending) : Prop := e = .returned (.int .i64 d) ∧ Ed1 P w' k un A B ∧ Fr (fun x => x = P ∨ base ≤ x) W w'
section
variable {P base : Nat} {W : World} {k : ByteArray} {u : Value} {qs : List Nat} {un : List (ByteArray × ByteArray)} {A B : List (List Int × Int)} {cl rl rr : List Value}
theorem Ed0.now (h : Ed0 P base W k u qs un A B cl rl rr) : zaY P W cl rl rr A B := h.gap _ (Fr.refl _ _)
theorem Ed0.ext {W' : World} (h : Ed0 P base W k u qs un A B cl rl rr) (E : Ext W W') : Ed0 P base W' k u qs un A B cl rl rr :=
 ⟨E.kept h.blk, fun w f => h.gap w ((Fr.of_ext E).tr f), h.bk.ed h.blk (Fr.of_ext E), Nat.le_trans h.hb E.size, h.ca, h.cb, h.hn⟩
theorem Ed0.end (h : Ed0 P base W k u qs un A B cl rl rr) : Ed1 P W k un A B := ⟨cl, rl, rr, u, h.blk, h.now, h.bk.read⟩
theorem Ed0.same {W' : World} (h : Ed0 P base W k u qs un A B cl rl rr) (E : Ext W W') (d : Int) : EdR P base W W' k un A B d (.returned (.int .i64 d)) := ⟨rfl, (h.ext E).end, Fr.of_ext E⟩
theorem Ed0.len (h : Ed0 P base W k u qs un A B cl rl rr) : cl.length = 600 := h.now.len
theorem Ed0.fit (h : Ed0 P base W k u qs un A B cl rl rr) : A.length + B.length ≤ 300 := h.now.fit
structure Ed2 (P base : Nat) (W0 W : World) (k : ByteArray) (u : Value) (un : List (ByteArray × ByteArray)) (A B : List (List Int × Int)) (cl rl rr : List Value) : Prop where
 blk : W.heap[P]? = some (.cells (edC cl (A.length : Int) ((300 - B.length : Nat) : Int) k u) 226 (0, 0))
 gap : zaY P W cl rl rr A B
 bk : BackS P W u un
 fr : Fr (fun x => x = P ∨ base ≤ x) W0 W
theorem Ed2.end {W0 W : World} (h : Ed2 P base W0 W k u un A B cl rl rr) (d : Int) : EdR P base W0 W k un A B d (.returned (.int .i64 d)) := ⟨rfl, ⟨cl, rl, rr, u, h.blk, h.gap, h.bk _ (Fr.refl _ _)⟩, h.fr⟩
theorem Ed2.step {W0 W W' : World} {k' : ByteArray} {A' B' : List (List Int × Int)} {cl' rl' rr' : List Value} (h : Ed2 P base W0 W k u un A B cl rl rr) (hb : W'.heap[P]? = some (.cells (edC cl' (A'.length : Int) ((300 - B'.length : Nat) : Int) k' u) 226 (0, 0))) (hg : zaY P W' cl' rl' rr' A' B') (f : Fr (fun q => q = P) W W') : Ed2 P base W0 W' k' u un A' B' cl' rl' rr' :=
 ⟨hb, hg, fun w g => h.bk w (f.tr g), h.fr.tr (f.mono (fun _ hx => .inl hx))⟩
theorem Ed2.ext {W0 W W' : World} (h : Ed2 P base W0 W k u un A B cl rl rr) (E : Ext W W') : Ed2 P base W0 W' k u un A B cl rl rr := h.step (E.kept h.blk) (h.gap.fr (Fr.of_ext E)) (Fr.of_ext E)
theorem zmo (h : Ed0 P base W k u qs un A B cl rl rr) :
  Calls Tryz.prog 298 #[.pointer (some ⟨P, 0, none⟩)] W fun e w' => ∃ u', e = .returned (.tuple #[]) ∧ Ed2 P base W w' k u' (zbk un (zv (zac A), zv (zac B))) A B cl rl rr ∧ Fr (fun x => x = P ∨ u.ownBlock = some x) W w' := by
 refine (zks P cl rl rr A B _ rfl k u qs un base W h.blk h.now h.ca.1 h.cb.1 h.ca.2 h.cb.2 h.bk h.hb h.hn).mono ?_
 rintro e w' ⟨u', rfl, hb, hs, f⟩
 have f' : Fr (fun x => x = P ∨ base ≤ x) W w' := f.mono (fun x hx => hx.elim .inl (fun e => .inr (h.bk.2.1.lt x e).1))
 exact ⟨u', rfl, ⟨hb, h.gap _ f', hs, f'⟩, f⟩
theorem zh8 {w : World} (h : Ed0 P base W k u qs un A B cl rl rr) (E : Ext W w) :
  Calls Tryz.prog 298 #[.pointer (some ⟨P, 0, none⟩)] w fun e w' => ∃ u', e = .returned (.tuple #[]) ∧ Ed2 P base W w' k u' (zbk un (zv (zac A), zv (zac B))) A B cl rl rr ∧ Fr (fun x => x = P ∨ u.ownBlock = some x) w w' := by
 refine (zmo (h.ext E)).mono ?_
 rintro e w' ⟨u', rfl, g, f⟩
 exact ⟨u', rfl, ⟨g.blk, g.gap, g.bk, (Fr.of_ext E).tr g.fr⟩, f⟩
theorem zjL {xs : List Value} {n m : Nat} (h : xs.length = n + m) : ∃ x y, xs = x ++ y ∧ x.length = n ∧ y.length = m := ⟨xs.take n, xs.drop n, (List.take_append_drop n xs).symm, by simp; omega, by simp; omega⟩
end
section
variable {P base : Nat} {W0 W : World} {k : ByteArray} {u : Value} {un : List (ByteArray × ByteArray)} {cl rl rr : List Value}
theorem EdR.pre {W' V w' : World} {A B : List (List Int × Int)} {d : Int} {e : Ending} (h : EdR P base V w' k un A B d e) (E : Ext W' V) : EdR P base W' w' k un A B d e := ⟨h.1, h.2.1, (Fr.of_ext E).tr h.2.2⟩
theorem Ed0.two {qs : List Nat} {A B : List (List Int × Int)} (h : Ed0 P base W k u qs un A B cl rl rr) : Ed2 P base W W k u un A B cl rl rr :=
 ⟨h.blk, h.now, fun _ f => (h.bk.ed h.blk f).read, Fr.refl _ _⟩
theorem zjc {A B : List (List Int × Int)} (h : Ed2 P base W0 W k u un A B cl rl rr) :
  Calls Tryz.prog 275 #[.pointer (some ⟨P, 0, none⟩)] W fun e w' => e = .returned (.slice (some ⟨P, 0, none⟩) A.length 300) ∧ zaI w' (.slice (some ⟨P, 0, none⟩) A.length 300) A ∧ Ext W w' := by
 refine (zfY P cl rl rr A B _ k u W h.blk h.gap).mono ?_
 rintro e w' ⟨rfl, E⟩
 exact ⟨rfl, (h.gap.left h.blk 300 (by have := h.gap.fit; omega)).ext E, E⟩
theorem zic {A B : List (List Int × Int)} (h : Ed2 P base W0 W k u un A B cl rl rr) :
  Calls Tryz.prog 276 #[.pointer (some ⟨P, 0, none⟩)] W fun e w' => ∃ ao cap, e = .returned (.slice ao B.length cap) ∧ zaI w' (.slice ao B.length cap) B ∧ Ext W w' := by
 refine (zfe P cl rl rr A B _ _ rfl k u W h.blk h.gap).mono ?_
 rintro e w' ⟨v, rfl, hv, E⟩
 obtain ⟨rs, ao, ca, rfl, h2⟩ := id hv
 exact ⟨ao, ca, rfl, hv.ext E, E⟩
end
def SmC (A : List (List Int × Int)) : Prop := ∀ c ∈ A, c.1.length ≤ 20000 ∧ zbv c.1
theorem SmC.flat {A : List (List Int × Int)} (h : SmC A) : (zaq A).length ≤ A.length * 20000 := by
 induction A with
 | nil => exact Nat.zero_le _
 | cons c cs ih =>
  have h1 := (h c (by simp)).1
  have h2 := ih (fun d hd => h d (by simp [hd]))
  simp [Go.Proofs.YtmlkpdbfnffoaaaGreatDoor.zaq]
  omega
theorem SmC.ck {A : List (List Int × Int)} (h : SmC A) (hl : A.length ≤ 600) : CkC A := by
 refine ⟨?_, fun j hj => ?_⟩
 ·rw [← zci]
  have := h.flat
  omega
 ·have e : cR A j = A[j].1 := by simp [cR, hj]
  rw [e]
  exact (h _ (List.getElem_mem hj)).2
theorem SmC.app {A B : List (List Int × Int)} (h1 : SmC A) (h2 : SmC B) : SmC (A ++ B) := fun c hc => (List.mem_append.1 hc).elim (h1 c) (h2 c)
theorem SmC.left {A B : List (List Int × Int)} (h : SmC (A ++ B)) : SmC A := fun c hc => h c (by simp [hc])
theorem SmC.right {A B : List (List Int × Int)} (h : SmC (A ++ B)) : SmC B := fun c hc => h c (by simp [hc])
theorem zjy (xs : List Int) : ∀ c ∈ zj xs, zbv c.1 := fun c hc => by
 obtain ⟨j, hj, e⟩ := List.getElem_of_mem hc
 have := zdD xs xs.length j
 have e2 : cR (clF xs xs.length) j = c.1 := by
  show cR (zj xs) j = c.1
  simp [cR, hj, e]
 rwa [e2] at this
theorem zmZ {L : List Int} (h : (zp L).length ≤ 300) : SmC (zd L) := fun c hc => by
 refine ⟨?_, zjy _ c hc⟩
 obtain ⟨j, hj, e⟩ := List.getElem_of_mem hc
 have := zcJ (zp L) (zp L).length j
 have e2 : cR (clF (zp L) (zp L).length) j = c.1 := by
  show cR (zd L) j = c.1
  simp [cR, hj, e]
 rw [e2] at this
 omega
theorem zmM {A : List (List Int × Int)} {c : List Int × Int} (h : c ∈ A) : c.1.length ≤ (zaq A).length := by
 induction A with
 | nil => simp at h
 | cons d ds ih =>
  simp [zaq]
  rcases List.mem_cons.1 h with rfl | h
  ·omega
  ·have := ih h
   omega
theorem flat_sm {xs : List Int} (h : (zaq (zj xs)).length ≤ 300) : SmC (zj xs) := fun c hc => ⟨by have := zmM hc; omega, zjy _ c hc⟩
def zfn (o : LD) (P base : Nat) (W : World) (d : Int) (w' : World) : Prop := ∃ A' B', d = o.d ∧ zv (zac A') = o.a ∧ zv (zac B') = o.b ∧ CkC A' ∧ CkC B' ∧ o.un.length ≤ 50 ∧ Ed1 P w' o.c o.un A' B' ∧ Fr (fun x => x = P ∨ base ≤ x) W w'
theorem zfn.of {o : LD} {P base : Nat} {W w' : World} {A' B' : List (List Int × Int)} {e : Ending} (h : EdR P base W w' o.c o.un A' B' o.d e) (ha : zv (zac A') = o.a) (hb : zv (zac B') = o.b) (sA : SmC A') (sB : SmC B') (hn : o.un.length ≤ 50) : ∃ d, e = .returned (.int .i64 d) ∧ zfn o P base W d w' := by
 obtain ⟨h1, h2, h3⟩ := h
 have hf : A'.length + B'.length ≤ 300 := by
  obtain ⟨cl, rl, rr, u, _, hg, _⟩ := h2
  exact hg.fit
 exact ⟨o.d, h1, A', B', rfl, ha, hb, sA.ck (by omega), sB.ck (by omega), hn, h2, h3⟩
theorem zfn.pre {o : LD} {P base : Nat} {W V w' : World} {d : Int} (h : zfn o P base V d w') (E : Ext W V) : zfn o P base W d w' := by
 obtain ⟨A', B', h1, h2, h3, h4, h5, h6, h7, h8⟩ := h
 exact ⟨A', B', h1, h2, h3, h4, h5, h6, h7, (Fr.of_ext E).tr h8⟩
structure zfs (a b c : ByteArray) (un : List (ByteArray × ByteArray)) : Prop where
 sa : zaC (baL a) = baL a
 sb : zaC (baL b) = baL b
 sc : zaC (baL c) = baL c
 nab : (zp (baL a)).length + (zp (baL b)).length ≤ 300
 nc : (zp (baL c)).length ≤ 300
 n : un.length ≤ 50
 us : ∀ s ∈ un, zaC (baL s.1) = baL s.1 ∧ zaC (baL s.2) = baL s.2 ∧ (zp (baL s.1)).length + (zp (baL s.2)).length ≤ 300
 za : a.size ≤ 1048576
 zb : b.size ≤ 1048576
 zc : c.size ≤ 1048576
 zu : ∀ s ∈ un, s.1.size ≤ 1048576 ∧ s.2.size ≤ 1048576
section
variable {a b c : ByteArray} {un : List (ByteArray × ByteArray)}
theorem zfs.ea (h : zfs a b c un) : zv (zac (zd (baL a))) = a := by rw [show zac (zd (baL a)) = baL a from h.sa, zay]
theorem zfs.eb (h : zfs a b c un) : zv (zac (zd (baL b))) = b := by rw [show zac (zd (baL b)) = baL b from h.sb, zay]
theorem zfs.smA (h : zfs a b c un) : SmC (zd (baL a)) := zmZ (by have := h.nab; omega)
theorem zfs.smB (h : zfs a b c un) : SmC (zd (baL b)) := zmZ (by have := h.nab; omega)
theorem zfs.un50 (h : zfs a b c un) (s : ByteArray × ByteArray) : (zbk un s).length ≤ 50 := zhK un s h.n
end
theorem Wd.same {p : Nat → Bool} {n s : Nat} (h : Wd p n s) : ∀ r, Wd p n r → r = s := fun _ hr => hr.only h
section
variable {P base : Nat} {W0 W : World} {k : ByteArray} {u : Value} {un : List (ByteArray × ByteArray)} {cl rl rr : List Value}
end
end Go.Proofs.YtmlkpdbfnffoaaaGreatDoor
