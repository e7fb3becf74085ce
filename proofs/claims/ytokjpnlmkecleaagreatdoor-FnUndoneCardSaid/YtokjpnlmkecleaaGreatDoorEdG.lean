import Derived.Test.YtokjpnlmkecleaaGreatDoorGapI
import Derived.Test.YtokjpnlmkecleaaGreatDoorEdW
import Derived.Test.YtokjpnlmkecleaaGreatDoorKys
import Derived.Test.YtokjpnlmkecleaaGreatDoorGapL
import Derived.Test.YtokjpnlmkecleaaGreatDoorGap
import Derived.Deep.RegionHeld3
import Derived.Test.YtokjpnlmkecleaaGreatDoorGapK
namespace Go.Proofs.YtokjpnlmkecleaaGreatDoor
open Go.RowKit
theorem clCells_in {rs : List Value} {cs : List (List Int × Int)} {v : Value} : ∀ k, v ∈ clCells rs cs k → ∃ j, j < k ∧ (v = rV rs j ∨ v = .int .i64 (cW cs j))
  | 0, h => by simp [clCells] at h
  | k + 1, h => by
    rw [clCells] at h
    rcases List.mem_append.1 h with h | h
    · obtain ⟨j, hj, e⟩ := clCells_in k h
      exact ⟨j, by omega, e⟩
    · simp at h
      exact ⟨k, by omega, h⟩
theorem OwnCls.gap {w : World} {base : Nat} {v : Value} {rs : List Value} {cs : List (List Int × Int)} (h : OwnCls w base v rs cs) {P : Nat} (hP : P < base) :
    ∃ ao cap, v = .slice ao cs.length cap ∧ rs.length = cs.length ∧ (∀ j, j < cs.length → RS P w (rV rs j) (cR cs j)) ∧ (∀ v ∈ clCells rs cs cs.length, v.oneCell' = true) ∧ (0 < cs.length → ∃ b off, ao = some ⟨b, off, none⟩ ∧ ∀ j, j < cs.length → w.cell? ⟨b, off + j * 2, none⟩ = some (rV rs j) ∧ w.cell? ⟨b, off + j * 2 + 1, none⟩ = some (.int .i64 (cW cs j))) := by
  obtain ⟨h0, ⟨ys, h1, h2⟩, h3, _⟩ := h
  have hrs : ∀ j, j < cs.length → RS P w (rV rs j) (cR cs j) := fun j hj W' f => ints_of_owns (f.owns (h3 j hj) (fun g hg e => by have := ((h3 j hj).lt g hg).1; omega))
  have hone : ∀ v ∈ clCells rs cs cs.length, v.oneCell' = true := by
    intro u hu
    obtain ⟨j, hj, e | e⟩ := clCells_in _ hu
    · rcases (h3 j hj).2 with ⟨e2, _⟩ | ⟨g, cap, cur, e2, _⟩ <;> rw [e, e2] <;> rfl
    · rw [e]; rfl
  rcases h1.2 with ⟨rfl, e0⟩ | ⟨g, cap, cur, rfl, hb, hg, hn, hm, hs, ht⟩
  · exact ⟨none, 0, by rw [e0], h0, hrs, hone, fun hp => by omega⟩
  · refine ⟨_, cap, rfl, h0, hrs, hone, fun _ => ⟨g, 0, rfl, fun j hj => ?_⟩⟩
    have := h2 j hj
    rw [Nat.zero_add, h1.cellAt _ (by omega), h1.cellAt _ (by omega)]
    exact this
set_option maxRecDepth 10000 in
set_option maxHeartbeats 2000000 in
theorem gapLeft_any (P : Nat) (cl rl rr : List Value) (A B : List (List Int × Int)) (bh : Int) (k : ByteArray) (u : Value) (W : World) (hP : W.heap[P]? = some (.cells (edC cl (A.length : Int) bh k u) 99 (0, 0))) (hG : GapIn P W cl rl rr A B) :
    Calls Tryz.prog 104 #[.pointer (some ⟨P, 0, none⟩)] W fun e w' => e = .returned (.slice (some ⟨P, 0, none⟩) A.length 300) ∧ Ext W w' := by
  have hl := hG.len
  have hf := hG.fit
  obtain ⟨k600, -, -, -, -, -, -⟩ := edG_cells hP hl
  obtain ⟨n, hn⟩ : ∃ n, A.length = n := ⟨_, rfl⟩
  rw [hn] at k600 hf ⊢
  have b1 : (n : Int) ≤ 300 := by omega
  clear hP hG hn
  go_enter Tryz.func104, Tryz.ntmps104
  go_wp2
  go_region_law (first | fail)
  all_goals
    go_wp2
    exact bodyPost_ret (v := .slice (some ⟨P, 0, none⟩) n 300) (by simp [results, Tryz.results104, go_sem]) rfl ⟨rfl, (Ext.refl W).drew⟩
set_option maxRecDepth 10000 in
set_option maxHeartbeats 2000000 in
theorem gapRight_any (P : Nat) (cl rl rr : List Value) (A B : List (List Int × Int)) (fr : Int) (bh : Nat) (hbh : bh = 300 - B.length) (k : ByteArray) (u : Value) (W : World) (hP : W.heap[P]? = some (.cells (edC cl fr (bh : Int) k u) 99 (0, 0))) (hG : GapIn P W cl rl rr A B) :
    Calls Tryz.prog 105 #[.pointer (some ⟨P, 0, none⟩)] W fun e w' => ∃ v, e = .returned v ∧ ClsAt W v B ∧ Ext W w' := by
  have hl := hG.len
  have hf := hG.fit
  obtain ⟨-, k601, -, -, -, -, -⟩ := edG_cells hP hl
  have b1 : (bh : Int) ≤ 300 := by omega
  by_cases h0 : 300 = bh
  · have hB : B = [] := List.eq_nil_of_length_eq_zero (by omega)
    have HV : Hid (∀ ao c, ClsAt W (.slice ao 0 c) B) := fun ao c => by
      subst hB
      exact ⟨[], ao, c, rfl, Nat.zero_le _, fun j hj => absurd hj (Nat.not_lt_zero _), fun h => absurd h (Nat.not_lt_zero _)⟩
    clear hP hG hbh hf hB
    subst h0
    go_enter Tryz.func105, Tryz.ntmps105
    go_wp2
    go_region_law (first | fail)
    all_goals
      go_wp2
      exact bodyPost_ret (v := .slice (some ⟨P, 0, none⟩) 0 0) (by simp [results, Tryz.results105, go_sem]) rfl ⟨_, rfl, (unhide HV) _ _, (Ext.refl W).drew⟩
  · have hv := hG.right hP B.length (Nat.le_refl _)
    rw [← hbh] at hv
    rw [show B.length = 300 - bh by omega] at hv
    have HV := hide hv
    clear hP hG hbh hf hv
    go_enter Tryz.func105, Tryz.ntmps105
    go_wp2
    go_region_law (first | fail)
    all_goals
      go_wp2
      exact bodyPost_ret (by simp [results, Tryz.results105, go_sem]) rfl ⟨_, rfl, unhide HV, (Ext.refl W).drew⟩
end Go.Proofs.YtokjpnlmkecleaaGreatDoor

namespace Go.Proofs.YtokjpnlmkecleaaGreatDoor
open Go.RowKit
set_option maxRecDepth 10000 in
set_option maxHeartbeats 8000000 in
theorem gapSnap_any (P : Nat) (cl rl rr : List Value) (A B : List (List Int × Int)) (bh : Nat) (hbh : bh = 300 - B.length) (k : ByteArray) (u : Value) (W : World) (hP : W.heap[P]? = some (.cells (edC cl (A.length : Int) (bh : Int) k u) 99 (0, 0))) (hG : GapIn P W cl rl rr A B) (zA : A.length + sumR A A.length ≤ 16777216) (zB : B.length + sumR B B.length ≤ 16777216) (iA : ∀ j, j < A.length → I32s (cR A j)) (iB : ∀ j, j < B.length → I32s (cR B j)) :
    Calls Tryz.prog 63 #[.pointer (some ⟨P, 0, none⟩)] W fun e w' => e = .returned (.agg #[.string (toBA (textC A)), .string (toBA (textC B))]) ∧ Ext W w' := by
  have infoS : (Tryz.prog.info? 49).map (·.size) = some 2 := by kernel_rfl
  have hf := hG.fit
  have HL := hide (fun U (hU : Ext W U) => gapLeft_any P cl rl rr A B bh k u U (hU.kept hP) (hG.fr (Fr.of_ext hU)))
  have HV := hide (fun U (hU : Ext W U) => (hG.fr (Fr.of_ext hU)).left (hU.kept hP) 300 (by omega))
  have HR := hide (fun U (hU : Ext W U) => gapRight_any P cl rl rr A B A.length bh hbh k u U (hU.kept hP) (hG.fr (Fr.of_ext hU)))
  have IA := hide iA
  have IB := hide iB
  obtain ⟨W0, hW0⟩ : ∃ W0, W0 = W.alloc (.cells #[.string { data := #[] }, .string { data := #[] }] 49) := ⟨_, rfl⟩
  have E0 : Ext W W0 := by rw [hW0]; exact (Ext.refl W).alloc _
  have q0 : W0.heap[W.heap.size]? = some (.cells #[.string { data := #[] }, .string { data := #[] }] 49 (0, 0)) := by rw [hW0]; exact heap_alloc_new W _
  have HE0 := hide E0
  have HQ0 := hide q0
  clear hP hG hbh iA iB E0 q0 hf
  subst hW0
  go_enter Tryz.func63, Tryz.ntmps63
  go_wp2_with fail
  refine ((unhide HL) _ (unhide HE0)).mono ?_
  rintro e w1 ⟨rfl, E1⟩
  have HE1 := hide ((unhide HE0).trans E1)
  have HQ1 := hide (E1.kept (unhide HQ0))
  clear E1 HE0 HQ0
  go_wp2_with fail
  refine (implTextOf_any _ A w1 ((unhide HV) _ (unhide HE1)) zA (unhide IA)).mono ?_
  rintro e w2 ⟨rfl, E2⟩
  have HE2 := hide ((unhide HE1).trans E2)
  have HQ2 := hide (E2.kept (unhide HQ1))
  clear E2 HE1 HQ1
  go_wp2_with fail
  refine ((unhide HR) _ (unhide HE2)).mono ?_
  rintro e w3 ⟨v3, rfl, hv3, E3⟩
  have HV3 := hide (hv3.ext E3)
  have HE3 := hide ((unhide HE2).trans E3)
  have HQ3 := hide (E3.kept (unhide HQ2))
  clear E3 HE2 HQ2 hv3
  go_wp2_with fail
  refine (implTextOf_any v3 B w3 (unhide HV3) zB (unhide IB)).mono ?_
  rintro e w4 ⟨rfl, E4⟩
  have HE4 := hide ((unhide HE3).trans E4)
  have HQ4 := hide (E4.kept (unhide HQ3))
  clear E4 HE3 HQ3
  go_wp2_with (first
    | (refine wpList_store_blk rfl 49 _ _ rfl rfl (W.heap.size) rfl _ _ _ rfl (unhide HQ4) infoS rfl (by simp [Value.oneCell']) ?_; intro U HB hU; have HB9 := hide HB; have HU9 := hide hU; clear HB hU))
  have v0 := cells_of (unhide HB9) 0 _ rfl
  have v1 := cells_of (unhide HB9) 1 _ rfl
  exact bodyPost_ret (v := .agg #[.string (toBA (textC A)), .string (toBA (textC B))]) (by simp [results, Tryz.results63, go_sem, v0, v1]) rfl ⟨rfl, (unhide HU9).ext (unhide HE4) (fun q hq => by omega)⟩
end Go.Proofs.YtokjpnlmkecleaaGreatDoor

namespace Go.Proofs.YtokjpnlmkecleaaGreatDoor
open Go.RowKit
def bkF (q : Nat) : Value := .func (.func 86) #[] #[.pointer (some ⟨q, 0, none⟩)]
def SnapBox (W : World) (q : Nat) (s : ByteArray × ByteArray) : Prop := W.heap[q]? = some (.cells #[.string s.1, .string s.2] 49 (0, 0))
theorem infoBack : (Tryz.prog.info? 105).map (fun i => (i.zero, i.size, i.bytes)) = some (some .nilFunc, 1, 8) := by kernel_rfl
theorem Fr.off {P : Nat} {S : Nat → Prop} {W0 W w' : World} (h : Fr (fun q => q = P) W0 W) (k : Fr S W w') (hS : ∀ x, S x → x = P ∨ W0.heap.size ≤ x) : Fr (fun q => q = P) W0 w' := by
  refine ⟨k.os.trans h.os, k.tape.trans h.tape, k.output.trans h.output, Nat.le_trans h.size k.size, fun i hi hn => (k.block i (Nat.lt_of_lt_of_le hi h.size) (fun e => ?_)).trans (h.block i hi hn)⟩
  rcases hS i e with e | e
  · exact hn e
  · omega
theorem ed_off {W : World} {P base n : Nat} {cs : Array Value} {u : Value} {xs : List Value} (hP : W.heap[P]? = some (.cells cs 99 (0, 0))) (hO : W.ownsRow base 105 1 u n xs) : ¬ u.ownBlock = some P := by
  intro e
  rcases hO.2 with ⟨rfl, _⟩ | ⟨g, cap, cur, rfl, hb, hg, _⟩
  · simp [Value.ownBlock] at e
  · simp [Value.ownBlock] at e
    subst e
    rw [hP] at hg
    simp at hg
theorem SnapBox.fr {W w' : World} {q : Nat} {s : ByteArray × ByteArray} {S : Nat → Prop} (h : SnapBox W q s) (f : Fr S W w') (hq : ¬ S q) : SnapBox w' q s := f.kept h hq
theorem SnapBox.off {W : World} {q : Nat} {s : ByteArray × ByteArray} (h : SnapBox W q s) {P base n : Nat} {cs : Array Value} {u : Value} {xs : List Value} (hP : W.heap[P]? = some (.cells cs 99 (0, 0))) (hO : W.ownsRow base 105 1 u n xs) : ¬ (q = P ∨ u.ownBlock = some q) := by
  rintro (e | e)
  · subst e
    unfold SnapBox at h
    rw [h] at hP
    simp at hP
  · rcases hO.2 with ⟨rfl, _⟩ | ⟨g, cap, cur, rfl, hb, hg, _⟩
    · simp [Value.ownBlock] at e
    · simp [Value.ownBlock] at e
      subst e
      unfold SnapBox at h
      rw [h] at hg
      simp at hg
theorem owns_sl {w : World} {b : Nat} {T : TypeId} {sz : Nat} {v : Value} {n : Nat} {xs : List Value} (h : w.ownsRow b T sz v n xs) : ∃ a c, v = .slice a n c := by
  rcases h.2 with ⟨rfl, h0⟩ | ⟨g, c, _, rfl, _⟩
  · exact ⟨none, 0, by rw [h0]⟩
  · exact ⟨_, c, rfl⟩
set_option maxRecDepth 10000 in
set_option maxHeartbeats 4000000 in
theorem back_any (q : Nat) (s : ByteArray × ByteArray) (W : World) (h : SnapBox W q s) : Calls Tryz.prog 86 #[.pointer (some ⟨q, 0, none⟩)] W fun e w' => e = .returned (.agg #[.string s.1, .string s.2]) ∧ Ext W w' := by
  have c0 := cells_of h 0 _ rfl
  have c1 := cells_of h 1 _ rfl
  have hlt : q < W.heap.size := (Array.getElem?_eq_some_iff.1 h).1
  have E0 : Ext W (W.alloc (.cells #[.string { data := #[] }, .string { data := #[] }] 49)) := (Ext.refl W).alloc _
  have infoS : (Tryz.prog.info? 49).map (·.size) = some 2 := by kernel_rfl
  have HA := hide (E0.kept h)
  have HN := hide (heap_alloc_new W (.cells #[.string { data := #[] }, .string { data := #[] }] 49))
  clear h
  go_enter Tryz.func86, Tryz.ntmps86
  go_wp2_with (first
    | (refine wpList_load_blk rfl 49 _ rfl q rfl _ _ _ _ (unhide HA) Tryz.underlying49 rfl infoS ?_)
    | (refine wpList_store_blk rfl 49 _ _ rfl rfl (W.heap.size) rfl _ _ _ rfl (unhide HN) infoS rfl (by simp [Value.oneCell']) ?_; intro U HB hU; have HB9 := hide HB; have HU9 := hide hU; clear HB hU))
  have v0 := cells_of (unhide HB9) 0 _ rfl
  have v1 := cells_of (unhide HB9) 1 _ rfl
  exact bodyPost_ret (v := .agg #[.string s.1, .string s.2]) (by simp [results, Tryz.results86, go_sem, v0, v1]) rfl ⟨rfl, (unhide HU9).ext E0 (fun q hq => by omega)⟩
set_option maxRecDepth 10000 in
set_option maxHeartbeats 8000000 in
theorem push_any (P : Nat) (cl : List Value) (f0 b0 : Int) (k : ByteArray) (u : Value) (qs : List Nat) (base : Nat) (a b : ByteArray) (W : World) (hP : W.heap[P]? = some (.cells (edC cl f0 b0 k u) 99 (0, 0))) (hl : cl.length = 600) (hO : W.ownsRow base 105 1 u qs.length (qs.map bkF)) (hb : base ≤ W.heap.size) (hn : qs.length ≤ 50) :
    Calls Tryz.prog 61 #[.pointer (some ⟨P, 0, none⟩), .agg #[.string a, .string b]] W fun e w' => ∃ u' q, e = .returned (.tuple #[]) ∧ w'.heap[P]? = some (.cells (edC cl f0 b0 k u') 99 (0, 0)) ∧ w'.ownsRow base 105 1 u' (qs ++ [q]).length ((qs ++ [q]).map bkF) ∧ SnapBox w' q (a, b) ∧ Fr (fun x => x = P ∨ u.ownBlock = some x) W w' := by
  obtain ⟨ic, hic, hc0, hc1, hc2⟩ := info_parts infoBack
  have hPl : P < W.heap.size := (Array.getElem?_eq_some_iff.1 hP).1
  have c603 := (edG_cells hP hl).2.2.2.1
  have hmf : ∀ (fn : Fn) (first cap : Array Value) (w : World), (Instr.makeFunc fn first cap).run Tryz.prog w = .ok (.func fn first cap) w := fun _ _ _ _ => rfl
  have hoff := ed_off hP hO
  have HP := hide hP
  have HO := hide hO
  have hne : ¬ W.heap.size = P := by omega
  have hsr := Src.made (w := W.alloc (.cells #[.string a, .string b] 49)) (size := 1) [bkF W.heap.size] 1 105 rfl (by simp [Value.oneCell', bkF])
  rw [show (W.alloc (.cells #[.string a, .string b] 49)).heap.size = W.heap.size + 1 by simp] at hsr
  have HSR := hide hsr
  clear hP hO hsr
  go_enter Tryz.func61, Tryz.ntmps61
  go_wp2_with (at_builtin; go_loud (
     refine wpList_app rfl _ _ 97 rfl base 105 ic .nilFunc 1 8 Tryz.underlying97 hic hc0 hc1 hc2 rfl (by decide) u qs.length (qs.map bkF) rfl (((unhide HO).alloc _).alloc _) _ 1 [bkF W.heap.size] rfl (unhide HSR) (by unfold maxLen; omega) (by omega) (by simp; omega) ?_
     intro v5 w5 o5 G5 _
     obtain ⟨a5, z5, rfl⟩ := owns_sl o5
     have X5 : Ext W ((W.alloc (.cells #[.string a, .string b] 49)).alloc (.cells #[bkF W.heap.size] 105)) := ((Ext.refl W).alloc _).alloc _
     have F5 : Fr (fun x => u.ownBlock = some x) W w5 := Fr.grown (Fr.of_ext X5) G5 (fun x hx => hx)
     have p5 := F5.kept (unhide HP) hoff
     have s5 : SnapBox w5 W.heap.size (a, b) := Fr.kept (S := fun x => u.ownBlock = some x) (Fr.grown (Fr.refl _ _) G5 (fun x hx => hx)) (((Ext.refl _).alloc _).kept (heap_alloc_new W _)) (fun e => by have := ((unhide HO).lt _ e).2; omega)
     have k5 := (edG_cells p5 hl).2.2.2.1
     have g5 := (edG_cells p5 hl).2.2.2.2.2.2
     have HO5 := hide o5
     have HP5 := hide p5
     have HS5 := hide s5
     have HF5 := hide F5
     clear o5 G5 X5 p5 s5 F5))
  have p6 := heap_setCell_same w5 P 603 _ _ (.slice a5 (qs.length + 1) z5) (unhide HP5)
  have e6 : (edC cl f0 b0 k u).setIfInBounds 603 (.slice a5 (qs.length + 1) z5) = edC cl f0 b0 k (.slice a5 (qs.length + 1) z5) := by unfold edC; simp [hl]
  rw [e6] at p6
  have F6 : Fr (fun x => x = P) w5 (w5.setCell ⟨P, 603, none⟩ (.slice a5 (qs.length + 1) z5)) := Fr.setCell (S := fun q => q = P) (Fr.refl _ w5) (a := ⟨P, 603, none⟩) rfl _
  have eL : qs.map bkF ++ [bkF W.heap.size] = (qs ++ [W.heap.size]).map bkF := by simp
  have eN : qs.length + 1 = (qs ++ [W.heap.size]).length := by simp
  have o6 := F6.owns (unhide HO5) (fun g hg e => ed_off (unhide HP5) (unhide HO5) (by rw [hg, e]))
  rw [eL] at o6
  exact bodyPost_end (v := .tuple #[]) (by simp [results, Tryz.results61, go_sem]) rfl ⟨_, W.heap.size, rfl, p6, by rw [← eN]; exact o6, (unhide HS5).fr F6 (fun e => hne e), ((unhide HF5).mono (fun x hx => .inr hx)).tr (F6.mono (fun x hx => .inl hx))⟩
end Go.Proofs.YtokjpnlmkecleaaGreatDoor

namespace Go.Proofs.YtokjpnlmkecleaaGreatDoor
open Go.RowKit
set_option maxRecDepth 10000 in
set_option maxHeartbeats 8000000 in
theorem gapLoad_any (P : Nat) (cl : List Value) (f0 b0 : Int) (k : ByteArray) (u : Value) (W : World) (hP : W.heap[P]? = some (.cells (edC cl f0 b0 k u) 99 (0, 0))) (hl : cl.length = 600) (h1 : ∀ v ∈ cl, v.oneCell' = true) (L R : List Int) (hL : Bytes L) (hR : Bytes R) (zL : L.length ≤ 8000000) (zR : R.length ≤ 8000000) (hfit : (cutC L).length + (cutC R).length ≤ 300)
    (hT : ∀ W', Fr (fun q => q = P) W W' → Laid W') :
    Calls Tryz.prog 60 #[.pointer (some ⟨P, 0, none⟩), .agg #[.string (toBA L), .string (toBA R)]] W fun e w' => ∃ cl' rl rr, e = .returned (.tuple #[]) ∧ w'.heap[P]? = some (.cells (edC cl' ((cutC L).length : Int) ((300 - (cutC R).length : Nat) : Int) k u) 99 (0, 0)) ∧ GapIn P w' cl' rl rr (cutC L) (cutC R) ∧ Fr (fun q => q = P) W w' := by
  have hPl : P < W.heap.size := (Array.getElem?_eq_some_iff.1 hP).1
  obtain ⟨c0, c1, -, -, g0, g1, -⟩ := edG_cells hP hl
  have p1 := heap_setCell_same W P 600 _ _ (.int .i64 0) hP
  rw [edC_front hl] at p1
  have c1' := (edG_cells p1 hl).2.1
  have p2 := heap_setCell_same _ P 601 _ _ (.int .i64 300) p1
  rw [edC_behind hl] at p2
  have F2 : Fr (fun q => q = P) W ((W.setCell ⟨P, 600, none⟩ (.int .i64 0)).setCell ⟨P, 601, none⟩ (.int .i64 300)) := Fr.setCell (S := fun q => q = P) (Fr.setCell (S := fun q => q = P) (Fr.refl _ W) (a := ⟨P, 600, none⟩) rfl _) (a := ⟨P, 601, none⟩) rfl _
  have zz : ((W.setCell ⟨P, 600, none⟩ (.int .i64 0)).setCell ⟨P, 601, none⟩ (.int .i64 300)).heap.size = W.heap.size := by simp [World.setCell]
  obtain ⟨U, hU⟩ : ∃ U, U = (((W.setCell ⟨P, 600, none⟩ (.int .i64 0)).setCell ⟨P, 601, none⟩ (.int .i64 300)).alloc (.cells #[.string (toBA L), .string (toBA R)] 49)) := ⟨_, rfl⟩
  have E0 : Ext ((W.setCell ⟨P, 600, none⟩ (.int .i64 0)).setCell ⟨P, 601, none⟩ (.int .i64 300)) U := by rw [hU]; exact (Ext.refl _).alloc _
  have FW2 : Fr (fun q => q = P) W U := F2.tr (Fr.of_ext E0)
  have q2 : U.heap[W.heap.size]? = some (.cells #[.string (toBA L), .string (toBA R)] 49 (0, 0)) := by
    have := heap_alloc_new ((W.setCell ⟨P, 600, none⟩ (.int .i64 0)).setCell ⟨P, 601, none⟩ (.int .i64 300)) (.cells #[.string (toBA L), .string (toBA R)] 49)
    rw [zz, ← hU] at this
    exact this
  have p3 := E0.kept p2
  have s2 := cells_of q2 1 _ rfl
  have hG2 : GapIn P U cl [] [] [] [] := ⟨hl, by simp, rfl, rfl, fun j hj => absurd hj (Nat.not_lt_zero _), fun j hj => absurd hj (Nat.not_lt_zero _), fun j hj => absurd hj (Nat.not_lt_zero _), fun j hj => absurd hj (Nat.not_lt_zero _), h1⟩
  have sz2 : P < U.heap.size := (Array.getElem?_eq_some_iff.1 p3).1
  have HP2 := hide p3
  have HF2 := hide FW2
  have HQ2 := hide q2
  have HG2 := hide hG2
  have HT := hide hT
  clear hP p1 p2 p3 q2 F2 FW2 hG2 hT E0 zz
  subst hU
  go_enter Tryz.func60, Tryz.ntmps60
  go_wp2_with fail
  refine (clustersOf_any R hR _ zR ((unhide HT) _ (unhide HF2))).mono ?_
  rintro e w3 ⟨v3, rs3, rfl, o3, E3⟩
  obtain ⟨ao, cap, rfl, hrs, hrr, hone, hx⟩ := o3.gap sz2
  have HF3 := hide ((unhide HF2).tr (Fr.of_ext E3))
  have HQ3 := hide (E3.kept (unhide HQ2))
  have HI := hide (insert_any P cl [] [] [] [] (cutC R) 300 rfl k u _ rs3 w3 (E3.kept (unhide HP2)) ((unhide HG2).fr (Fr.of_ext E3)) hrs (by simp; omega) hrr hone ao cap rfl hx)
  have HRS := hide hrs
  clear o3 hrr hone hx hrs HP2 HF2 HQ2 HG2
  go_wp2_with fail
  refine (unhide HI).mono ?_
  rintro e w4 ⟨cl4, rfl, p4, G4, F4⟩
  rw [List.nil_append, List.nil_append] at G4
  rw [List.nil_append] at p4
  have c4 := (edG_cells p4 G4.len).1
  have HF4 := hide ((unhide HF3).tr F4)
  have HQ4 := hide (F4.kept (unhide HQ3) (by show ¬ W.heap.size = P; omega))
  have HL := hide (goLeft_any P cl4 [] rs3 [] [] (cutC R) [] 300 (cutC R).length (cutC R).length rfl (by simp) rfl k u w4 p4 G4 rfl (unhide HRS))
  clear p4 G4 F4 HF3 HQ3 HI HRS
  go_wp2_with fail
  refine (unhide HL).mono ?_
  rintro e w5 ⟨cl5, rfl, p5, G5, F5⟩
  rw [List.append_nil, List.append_nil] at G5
  rw [List.append_nil] at p5
  have HF5 := hide ((unhide HF4).tr F5)
  have q5 := F5.kept (unhide HQ4) (by show ¬ W.heap.size = P; omega)
  have s5 := cells_of q5 0 _ rfl
  have sz5 : P < w5.heap.size := (Array.getElem?_eq_some_iff.1 p5).1
  have HP5 := hide p5
  have HG5 := hide G5
  clear p5 G5 F5 q5 HF4 HQ4 HL
  go_wp2_with fail
  refine (clustersOf_any L hL _ zL ((unhide HT) _ (unhide HF5))).mono ?_
  rintro e w6 ⟨v6, rs6, rfl, o6, E6⟩
  obtain ⟨ao6, cap6, rfl, hrs, hrr, hone, hx⟩ := o6.gap sz5
  have HF6 := hide ((unhide HF5).tr (Fr.of_ext E6))
  have HI := hide (insert_any P cl5 [] rs3 [] (cutC R) (cutC L) (300 - (cutC R).length) rfl k u _ rs6 w6 (E6.kept (unhide HP5)) ((unhide HG5).fr (Fr.of_ext E6)) hrs (by simp; omega) hrr hone ao6 cap6 rfl hx)
  clear o6 hrr hone hx hrs HP5 HF5 HG5
  go_wp2_with fail
  refine (unhide HI).mono ?_
  rintro e w7 ⟨cl7, rfl, p7, G7, F7⟩
  rw [List.nil_append, List.nil_append] at G7
  rw [List.nil_append] at p7
  have HP7 := hide p7
  have HG7 := hide G7
  have HF7 := hide ((unhide HF6).tr F7)
  clear p7 G7 F7 HI HF6
  go_wp2
  exact bodyPost_end (v := .tuple #[]) (by simp [results, Tryz.results60, go_sem]) rfl ⟨_, _, _, rfl, unhide HP7, unhide HG7, unhide HF7⟩
end Go.Proofs.YtokjpnlmkecleaaGreatDoor

namespace Go.Proofs.YtokjpnlmkecleaaGreatDoor
open Go.RowKit
def BackAt (W : World) (u : Value) (un : List (ByteArray × ByteArray)) : Prop := ∃ qs : List Nat, qs.length = un.length ∧ Row1At W u un.length (fun j => bkF (qs[j]?.getD 0)) ∧ ∀ (j q : Nat) (s : ByteArray × ByteArray), qs[j]? = some q → un[j]? = some s → SnapBox W q s
def BackS (P : Nat) (W : World) (u : Value) (un : List (ByteArray × ByteArray)) : Prop := ∀ W', Fr (fun q => q = P) W W' → BackAt W' u un
def BackOwn (W : World) (base : Nat) (u : Value) (qs : List Nat) (un : List (ByteArray × ByteArray)) : Prop := qs.length = un.length ∧ W.ownsRow base 105 1 u qs.length (qs.map bkF) ∧ ∀ (j q : Nat) (s : ByteArray × ByteArray), qs[j]? = some q → un[j]? = some s → SnapBox W q s
theorem edC_undo {cl : List Value} {fr bh : Int} {k : ByteArray} {u u' : Value} (h : cl.length = 600) : (edC cl fr bh k u).setIfInBounds 603 u' = edC cl fr bh k u' := by
  unfold edC
  simp [h]
theorem BackOwn.push {W w' : World} {base P q : Nat} {u u' : Value} {qs : List Nat} {un : List (ByteArray × ByteArray)} {s : ByteArray × ByteArray} {cs : Array Value} (h : BackOwn W base u qs un) (hP : W.heap[P]? = some (.cells cs 99 (0, 0))) (f : Fr (fun x => x = P ∨ u.ownBlock = some x) W w') (o : w'.ownsRow base 105 1 u' (qs ++ [q]).length ((qs ++ [q]).map bkF)) (b : SnapBox w' q s) : BackOwn w' base u' (qs ++ [q]) (un ++ [s]) := by
  obtain ⟨h1, h2, h3⟩ := h
  refine ⟨by simp [h1], o, fun j q' s' hq hs => ?_⟩
  by_cases e : j < qs.length
  · rw [List.getElem?_append_left e] at hq
    rw [List.getElem?_append_left (by omega)] at hs
    have hb := h3 j q' s' hq hs
    exact hb.fr f (hb.off hP h2)
  · have hj : j = qs.length := by have := (List.getElem?_eq_some_iff.1 hq).1; simp at this; omega
    subst hj
    rw [List.getElem?_append_right (Nat.le_refl _)] at hq
    rw [h1, List.getElem?_append_right (Nat.le_refl _)] at hs
    simp at hq hs
    subst hq
    subst hs
    exact b
theorem BackOwn.read {W : World} {base : Nat} {u : Value} {qs : List Nat} {un : List (ByteArray × ByteArray)} (h : BackOwn W base u qs un) : BackAt W u un := by
  obtain ⟨h1, h2, h3⟩ := h
  refine ⟨qs, h1, ?_, h3⟩
  rcases h2.2 with ⟨e, e0⟩ | ⟨g, cap, cur, e, hb, hg, hn, _⟩
  · exact ⟨none, 0, by rw [e, ← h1, e0], by omega, fun hp => by omega⟩
  · refine ⟨_, cap, by rw [e, ← h1], by omega, fun _ => ⟨g, 0, rfl, fun j hj => ?_⟩⟩
    rw [e] at h2
    have := h2.cellAt j (by omega)
    rw [Nat.zero_add, this]
    simp [List.getElem?_eq_getElem (show j < qs.length by omega)]
theorem BackOwn.drop {W : World} {base g cap : Nat} {qs : List Nat} {un : List (ByteArray × ByteArray)} (h : BackOwn W base (.slice (some ⟨g, 0, none⟩) qs.length cap) qs un) (h0 : 0 < qs.length) (hc : qs.length ≤ cap) : BackAt W (.slice (some ⟨g, 1, none⟩) (qs.length - 1) (cap - 1)) (un.drop 1) := by
  obtain ⟨h1, h2, h3⟩ := h
  refine ⟨qs.drop 1, by simp [h1], ⟨_, cap - 1, by rw [List.length_drop, h1], by rw [List.length_drop]; omega, fun _ => ⟨g, 1, rfl, fun j hj => ?_⟩⟩, fun j q s hq hs => ?_⟩
  · rw [List.length_drop] at hj
    have := h2.cellAt (1 + j) (by omega)
    rw [this, Nat.add_comm 1 j]
    simp [List.getElem?_eq_getElem (show j + 1 < qs.length by omega)]
  · rw [List.getElem?_drop] at hq hs
    exact h3 _ q s hq hs
theorem BackOwn.ed {W w' : World} {base P : Nat} {u : Value} {qs : List Nat} {un : List (ByteArray × ByteArray)} {cs : Array Value} (h : BackOwn W base u qs un) (hP : W.heap[P]? = some (.cells cs 99 (0, 0))) (f : Fr (fun x => x = P) W w') : BackOwn w' base u qs un :=
  ⟨h.1, f.owns h.2.1 (fun g hg e => ed_off hP h.2.1 (by rw [hg, e])), fun j q s a b => (h.2.2 j q s a b).fr f (fun e => (h.2.2 j q s a b).off hP h.2.1 (.inl e))⟩
set_option maxRecDepth 10000 in
set_option maxHeartbeats 8000000 in
theorem change_any (P : Nat) (cl rl rr : List Value) (A B : List (List Int × Int)) (bh : Nat) (hbh : bh = 300 - B.length) (k : ByteArray) (u : Value) (qs : List Nat) (un : List (ByteArray × ByteArray)) (base : Nat) (W : World) (hP : W.heap[P]? = some (.cells (edC cl (A.length : Int) (bh : Int) k u) 99 (0, 0))) (hG : GapIn P W cl rl rr A B) (zA : A.length + sumR A A.length ≤ 16777216) (zB : B.length + sumR B B.length ≤ 16777216) (iA : ∀ j, j < A.length → I32s (cR A j)) (iB : ∀ j, j < B.length → I32s (cR B j)) (hU : BackOwn W base u qs un) (hb : base ≤ W.heap.size) (hn : un.length ≤ 50) :
    Calls Tryz.prog 119 #[.pointer (some ⟨P, 0, none⟩)] W fun e w' => ∃ u', e = .returned (.tuple #[]) ∧ w'.heap[P]? = some (.cells (edC cl (A.length : Int) (bh : Int) k u') 99 (0, 0)) ∧ BackS P w' u' (undoN un (toBA (textC A), toBA (textC B))) ∧ Fr (fun x => x = P ∨ u.ownBlock = some x) W w' := by
  have hl := hG.len
  have HS := hide (gapSnap_any P cl rl rr A B bh hbh k u W hP hG zA zB iA iB)
  have HH := hide (fun w (E : Ext W w) => push_any P cl (A.length : Int) (bh : Int) k u qs base (toBA (textC A)) (toBA (textC B)) w (E.kept hP) hl (E.owns hU.2.1) (Nat.le_trans hb E.size) (by rw [hU.1]; exact hn))
  have HU := hide (fun w (E : Ext W w) => (show BackOwn w base u qs un from ⟨hU.1, E.owns hU.2.1, fun j q s h1 h2 => E.kept (hU.2.2 j q s h1 h2)⟩))
  have HP := hide hP
  have hq := hU.1
  clear hP hG hbh zA zB iA iB hU
  go_enter Tryz.func119, Tryz.ntmps119
  go_wp2_with fail
  refine (unhide HS).mono ?_
  rintro e w1 ⟨rfl, E1⟩
  have HE1 := hide E1
  clear E1 HS
  go_wp2_with fail
  refine ((unhide HH) _ (unhide HE1)).mono ?_
  rintro e w2 ⟨u2, q2, rfl, p2, o2, b2, F2⟩
  have HB := hide (((unhide HU) _ (unhide HE1)).push ((unhide HE1).kept (unhide HP)) F2 o2 b2)
  have HF := hide ((Fr.of_ext (unhide HE1)).tr F2)
  have HP2 := hide p2
  have hql : (qs ++ [q2]).length = un.length + 1 := by simp [hq]
  have k2 := (edG_cells p2 hl).2.2.2.1
  have f2 := (edG_cells p2 hl).2.2.2.2.2.2
  rcases o2.2 with ⟨-, e0⟩ | ⟨g, cap, cur, rfl, -, -, hcap, -⟩
  · simp at e0
  by_cases h50 : un.length = 50
  · have hu : undoN un (toBA (textC A), toBA (textC B)) = (un ++ [(toBA (textC A), toBA (textC B))]).drop 1 := by unfold undoN; rw [if_pos (by omega)]
    have F3 : Fr (fun x => x = P) w2 (w2.setCell ⟨P, 603, none⟩ (.slice (some ⟨g, 1, none⟩) 50 (cap - 1))) := Fr.setCell (S := fun q => q = P) (Fr.refl _ w2) (a := ⟨P, 603, none⟩) rfl _
    have HR := hide (fun w' (f : Fr (fun q => q = P) (w2.setCell ⟨P, 603, none⟩ (.slice (some ⟨g, 1, none⟩) 50 (cap - 1))) w') => ((unhide HB).ed (unhide HP2) (F3.tr f)).drop (by omega) hcap)
    rw [hql, h50, ← hu] at HR
    have p3 := heap_setCell_same w2 P 603 _ _ (.slice (some ⟨g, 1, none⟩) 50 (cap - 1)) (unhide HP2)
    rw [edC_undo hl] at p3
    rw [hql, h50] at k2 hcap
    have HP3 := hide p3
    have HF3 := hide ((unhide HF).tr (F3.mono (fun x hx => .inl hx)))
    have c1 : ¬ cap = 1 := by omega
    have c2 : ¬ cap = 0 := by omega
    have c3 : (1 : Int) ≤ (cap : Int) := by omega
    clear p2 o2 b2 F2 p3 HH HU HE1 HB hu hq hql F3 HP2 HF
    go_wp2
    exact bodyPost_end (v := .tuple #[]) (by simp [results, Tryz.results119, go_sem]) rfl ⟨_, rfl, unhide HP3, unhide HR, unhide HF3⟩
  · have HR := hide (fun w' (f : Fr (fun q => q = P) w2 w') => ((unhide HB).ed (unhide HP2) f).read)
    have hu : undoN un (toBA (textC A), toBA (textC B)) = un ++ [(toBA (textC A), toBA (textC B))] := by unfold undoN; rw [if_neg (by omega)]
    rw [← hu] at HR
    have hlt : ¬ (50 : Int) < ((un.length + 1 : Nat) : Int) := by omega
    clear p2 o2 b2 F2 HH HU HE1 HB hu hq
    rw [hql] at k2 HP2 HR hcap
    have hlt2 : ¬ 50 < un.length + 1 := by omega
    clear hql
    obtain ⟨m, hm⟩ : ∃ m, un.length + 1 = m := ⟨_, rfl⟩
    rw [hm] at k2 HP2 HR hcap hlt hlt2
    go_wp2
    exact bodyPost_end (v := .tuple #[]) (by simp [results, Tryz.results119, go_sem]) rfl ⟨_, rfl, unhide HP2, unhide HR, unhide HF⟩
end Go.Proofs.YtokjpnlmkecleaaGreatDoor

namespace Go.Proofs.YtokjpnlmkecleaaGreatDoor
open Go.RowKit
def cl0 : List Value := (List.replicate 300 [Value.slice none 0 0, Value.int .i64 0]).flatten
theorem cl0_len : cl0.length = 600 := by kernel_rfl
theorem cl0_one : ∀ v ∈ cl0, v.oneCell' = true := by
  intro v hv
  unfold cl0 at hv
  obtain ⟨l, hl, hv⟩ := List.mem_flatten.1 hv
  rw [List.eq_of_mem_replicate hl] at hv
  simp at hv
  rcases hv with rfl | rfl <;> rfl
theorem edZero (k : ByteArray) : Tryz.zeroCells99.setIfInBounds 602 (.string k) = edC cl0 0 0 k (.slice none 0 0) := by kernel_rfl
set_option maxRecDepth 10000 in
set_option maxHeartbeats 8000000 in
theorem newEditor_any (L R : List Int) (hL : Bytes L) (hR : Bytes R) (zL : L.length ≤ 8000000) (zR : R.length ≤ 8000000) (hfit : (cutC L).length + (cutC R).length ≤ 300) (k : ByteArray) (v : Value) (n : Nat) (tx hf : Nat → ByteArray) (w : World) (hv : Row2At w v n (fun j => .string (tx j)) (fun j => .string (hf j))) (hn : n ≤ 50) (hT : ∀ w', Ext w w' → Laid w') :
    Calls Tryz.prog 27 #[.agg #[.string (toBA L), .string (toBA R), .string k, v]] w fun e w' => ∃ P cl rl rr u qs base, e = .returned (.pointer (some ⟨P, 0, none⟩)) ∧ w'.heap[P]? = some (.cells (edC cl ((cutC L).length : Int) ((300 - (cutC R).length : Nat) : Int) k u) 99 (0, 0)) ∧ (∀ W', Fr (fun q => q = P ∨ base ≤ q) w' W' → GapIn P W' cl rl rr (cutC L) (cutC R)) ∧ BackOwn w' base u qs (unL tx hf n) ∧ w.heap.size ≤ P ∧ w.heap.size ≤ base ∧ base ≤ w'.heap.size ∧ Ext w w' := by
  obtain ⟨ao, ca, rfl, hca, hxa⟩ := hv
  have HX := hide hxa
  have HT := hide hT
  clear hxa hT
  go_enter Tryz.func27, Tryz.ntmps27
  go_wp2
  rw [edZero]
  have zl := cl0_len
  have zo := cl0_one
  generalize cl0 = cz at zl zo ⊢
  obtain ⟨W0, hW0⟩ : ∃ U, U = (w.alloc (.cells #[.string (toBA L), .string (toBA R), .string k, .slice ao n ca] 25)).alloc (.cells (edC cz 0 0 k (.slice none 0 0)) 99) := ⟨_, rfl⟩
  rw [← hW0]
  obtain ⟨P, hPd⟩ : ∃ P, P = w.heap.size + 1 := ⟨_, rfl⟩
  have E0 : Ext w W0 := by rw [hW0]; exact ((Ext.refl w).alloc _).alloc _
  have p0 : W0.heap[P]? = some (.cells (edC cz 0 0 k (.slice none 0 0)) 99 (0, 0)) := by
    have h := heap_alloc_new (w.alloc (.cells #[.string (toBA L), .string (toBA R), .string k, .slice ao n ca] 25)) (.cells (edC cz 0 0 k (.slice none 0 0)) 99)
    rw [show (w.alloc (.cells #[.string (toBA L), .string (toBA R), .string k, .slice ao n ca] 25)).heap.size = P by rw [hPd]; simp, ← hW0] at h
    exact h
  have l0 : W0.heap[w.heap.size]? = some (.cells #[.string (toBA L), .string (toBA R), .string k, .slice ao n ca] 25 (0, 0)) := by rw [hW0]; exact ((Ext.refl _).alloc _).kept (heap_alloc_new w _)
  rw [← hPd]
  have c0 := cells_of l0 0 _ rfl
  have c1 := cells_of l0 1 _ rfl
  have HE0 := hide E0
  have ZO := hide zo
  clear zo
  have HL0 := hide l0
  have HLd := hide (fun W (E : Ext W0 W) => gapLoad_any P cz 0 0 k (.slice none 0 0) W (E.kept p0) zl (unhide ZO) L R hL hR zL zR hfit (fun W' f => (unhide HT) W' (f.ext (E0.trans E) (fun q hq => by omega))))
  clear E0 p0 l0 hW0
  have hPw : w.heap.size < P := by omega
  clear HT hL hR zL zR hfit ZO hPd
  go_region_held3 (fun W => W.cell? ⟨w.heap.size, 0, none⟩ = some (.string (toBA L)) ∧ W.cell? ⟨w.heap.size, 1, none⟩ = some (.string (toBA R))) (first | exact ⟨c0, c1⟩ | exact ⟨c0', c1'⟩) (first
    | (go_at_call 60
       refine ((unhide HLd) _ (Ext.refl W0).drew).mono ?_
       rintro e w1 ⟨cl1, rl1, rr1, rfl, p1, G1, F1⟩
       have F1' := (Fr.of_ext (Ext.refl W0).drew).tr F1
       have l1 := F1'.kept (unhide HL0) (by show ¬ w.heap.size = P; omega)
       have c0' := cells_of l1 0 _ rfl
       have c1' := cells_of l1 1 _ rfl
       have c3 : w1.cell? ⟨w.heap.size, 3, none⟩ = some (.slice ao n ca) := cells_of l1 3 _ rfl
       have HP1 := hide p1
       have HG1 := hide G1
       have HE1 := hide (F1'.ext (unhide HE0) (fun q hq => by omega))
       have hsz1 := (F1'.ext (unhide HE0) (fun q hq => by omega)).size
       clear p1 G1 F1 F1' l1))
  clear HLd HL0 HE0
  have hPl : P < w1.heap.size := (Array.getElem?_eq_some_iff.1 (unhide HP1)).1
  have hl1 := (unhide HG1).len
  go_wp2
  go_loopw [22] (fun i wr => ∃ (j : Nat) (u : Value) (qs : List Nat), j ≤ n ∧ i = .int .i64 j ∧ Hid (wr.heap[P]? = some (.cells (edC cl1 ((cutC L).length : Int) ((300 - (cutC R).length : Nat) : Int) k u) 99 (0, 0))) ∧ Hid (BackOwn wr w1.heap.size u qs (unL tx hf j)) ∧ Hid (Fr (fun q => q = P) w1 wr)) (fun i _ => n - (intOf i).toNat)
  case atStart => exact ⟨0, _, [], Nat.zero_le _, rfl, HP1, hide ⟨rfl, owns_nil _ _ _ _, fun j q s h _ => by simp at h⟩, hide (Fr.refl _ _)⟩
  case round =>
    obtain ⟨j, u, qs, hj, rfl, HPj, HBj, HFj⟩ := hrel
    have hE := (unhide HFj).ext (unhide HE1) (fun q hq => by omega)
    have hqs : qs.length = j := by have := (unhide HBj).1; rwa [unL_len] at this
    by_cases hlt : j < n
    · obtain ⟨b, off, hao, hc⟩ := (unhide HX) (by omega)
      subst hao
      have g1 := hE.cell (hc j hlt).1
      have g2 := hE.cell (hc j hlt).2
      have bj : (j : Int) < (n : Int) := by omega
      have HH := hide (fun W (E : Ext wr W) => push_any P cl1 ((cutC L).length : Int) ((300 - (cutC R).length : Nat) : Int) k u qs w1.heap.size (tx j) (hf j) W (E.kept (unhide HPj)) hl1 (E.owns (unhide HBj).2.1) (Nat.le_trans (unhide HFj).size E.size) (by omega))
      have HBE := hide (fun W (E : Ext wr W) => (show BackOwn W w1.heap.size u qs (unL tx hf j) from ⟨(unhide HBj).1, E.owns (unhide HBj).2.1, fun j q s h1 h2 => E.kept ((unhide HBj).2.2 j q s h1 h2)⟩))
      clear hc hE hqs
      go_wp2_with fail
      refine ((unhide HH) _ ((Ext.refl wr).alloc _)).mono ?_
      rintro e w2 ⟨u2, q2, rfl, p2, o2, b2, F2⟩
      have HB2 := hide (((unhide HBE) _ ((Ext.refl wr).alloc _)).push (((Ext.refl wr).alloc _).kept (unhide HPj)) F2 o2 b2)
      rw [← unL_succ] at HB2
      have HP2 := hide p2
      have HF2 := hide (Fr.off ((unhide HFj).tr (Fr.of_ext ((Ext.refl wr).alloc _))) F2 (fun x hx => by
        rcases hx with hx | hx
        · exact .inl hx
        · exact .inr ((unhide HBj).2.1.lt _ hx).1))
      clear p2 o2 b2 F2 HH HBE g1 g2
      go_wp2
      go_roundw
      case rel => exact ⟨j + 1, u2, qs ++ [q2], by omega, by go_num, HP2, HB2, HF2⟩
      case measure => simp [intOf]; omega
    · obtain rfl : j = n := by omega
      have hb9 : ¬ (j : Int) < (j : Int) := by omega
      go_wp2
      exact bodyPost_ret (v := .pointer (some ⟨P, 0, none⟩)) (by simp [results, Tryz.results27, go_sem]) rfl ⟨P, rfl, cl1, rl1, rr1, u, unhide HPj, qs, w1.heap.size, fun W' f => (unhide HG1).fr (Fr.off (unhide HFj) f (fun x hx => hx)), unhide HBj, Nat.le_of_lt hPw, hsz1, (unhide HFj).size, hE⟩
end Go.Proofs.YtokjpnlmkecleaaGreatDoor

namespace Go.Proofs.YtokjpnlmkecleaaGreatDoor
open Go.RowKit
theorem cut_len (L : List Int) : (cutC L).length ≤ (cleanL L).length := clF_len _ _
theorem cut_fit (L : List Int) (h : L.length ≤ 8000000) : (cutC L).length + sumR (cutC L) (cutC L).length ≤ 16777216 := clusC_fit _ (by have := cleanL_len L; omega)
theorem cut_i32 (L : List Int) : ∀ j, j < (cutC L).length → I32s (cR (cutC L) j) := fun j _ => clF_i32 _ _ j
end Go.Proofs.YtokjpnlmkecleaaGreatDoor

namespace Go.Proofs.YtokjpnlmkecleaaGreatDoor
open Go.RowKit
def CkC (A : List (List Int × Int)) : Prop := A.length + sumR A A.length ≤ 16777216 ∧ ∀ j, j < A.length → I32s (cR A j)
structure Ed0 (P base : Nat) (W : World) (k : ByteArray) (u : Value) (qs : List Nat) (un : List (ByteArray × ByteArray)) (A B : List (List Int × Int)) (cl rl rr : List Value) : Prop where
  blk : W.heap[P]? = some (.cells (edC cl (A.length : Int) ((300 - B.length : Nat) : Int) k u) 99 (0, 0))
  gap : ∀ W', Fr (fun q => q = P ∨ base ≤ q) W W' → GapIn P W' cl rl rr A B
  bk : BackOwn W base u qs un
  hb : base ≤ W.heap.size
  ca : CkC A
  cb : CkC B
  hn : un.length ≤ 50
def Ed1 (P : Nat) (W : World) (k : ByteArray) (un : List (ByteArray × ByteArray)) (A B : List (List Int × Int)) : Prop := ∃ cl rl rr u, W.heap[P]? = some (.cells (edC cl (A.length : Int) ((300 - B.length : Nat) : Int) k u) 99 (0, 0)) ∧ GapIn P W cl rl rr A B ∧ BackAt W u un
def EdR (P base : Nat) (W w' : World) (k : ByteArray) (un : List (ByteArray × ByteArray)) (A B : List (List Int × Int)) (d : Int) (e : Ending) : Prop := e = .returned (.int .i64 d) ∧ Ed1 P w' k un A B ∧ Fr (fun x => x = P ∨ base ≤ x) W w'
section
variable {P base : Nat} {W : World} {k : ByteArray} {u : Value} {qs : List Nat} {un : List (ByteArray × ByteArray)} {A B : List (List Int × Int)} {cl rl rr : List Value}
theorem Ed0.now (h : Ed0 P base W k u qs un A B cl rl rr) : GapIn P W cl rl rr A B := h.gap _ (Fr.refl _ _)
theorem Ed0.ext {W' : World} (h : Ed0 P base W k u qs un A B cl rl rr) (E : Ext W W') : Ed0 P base W' k u qs un A B cl rl rr :=
  ⟨E.kept h.blk, fun w f => h.gap w ((Fr.of_ext E).tr f), h.bk.ed h.blk (Fr.of_ext E), Nat.le_trans h.hb E.size, h.ca, h.cb, h.hn⟩
theorem Ed0.end (h : Ed0 P base W k u qs un A B cl rl rr) : Ed1 P W k un A B := ⟨cl, rl, rr, u, h.blk, h.now, h.bk.read⟩
theorem Ed0.same {W' : World} (h : Ed0 P base W k u qs un A B cl rl rr) (E : Ext W W') (d : Int) : EdR P base W W' k un A B d (.returned (.int .i64 d)) := ⟨rfl, (h.ext E).end, Fr.of_ext E⟩
theorem Ed0.len (h : Ed0 P base W k u qs un A B cl rl rr) : cl.length = 600 := h.now.len
theorem Ed0.fit (h : Ed0 P base W k u qs un A B cl rl rr) : A.length + B.length ≤ 300 := h.now.fit
structure Ed2 (P base : Nat) (W0 W : World) (k : ByteArray) (u : Value) (un : List (ByteArray × ByteArray)) (A B : List (List Int × Int)) (cl rl rr : List Value) : Prop where
  blk : W.heap[P]? = some (.cells (edC cl (A.length : Int) ((300 - B.length : Nat) : Int) k u) 99 (0, 0))
  gap : GapIn P W cl rl rr A B
  bk : BackS P W u un
  fr : Fr (fun x => x = P ∨ base ≤ x) W0 W
theorem Ed2.end {W0 W : World} (h : Ed2 P base W0 W k u un A B cl rl rr) (d : Int) : EdR P base W0 W k un A B d (.returned (.int .i64 d)) := ⟨rfl, ⟨cl, rl, rr, u, h.blk, h.gap, h.bk _ (Fr.refl _ _)⟩, h.fr⟩
theorem Ed2.step {W0 W W' : World} {k' : ByteArray} {A' B' : List (List Int × Int)} {cl' rl' rr' : List Value} (h : Ed2 P base W0 W k u un A B cl rl rr) (hb : W'.heap[P]? = some (.cells (edC cl' (A'.length : Int) ((300 - B'.length : Nat) : Int) k' u) 99 (0, 0))) (hg : GapIn P W' cl' rl' rr' A' B') (f : Fr (fun q => q = P) W W') : Ed2 P base W0 W' k' u un A' B' cl' rl' rr' :=
  ⟨hb, hg, fun w g => h.bk w (f.tr g), h.fr.tr (f.mono (fun _ hx => .inl hx))⟩
theorem Ed2.ext {W0 W W' : World} (h : Ed2 P base W0 W k u un A B cl rl rr) (E : Ext W W') : Ed2 P base W0 W' k u un A B cl rl rr := h.step (E.kept h.blk) (h.gap.fr (Fr.of_ext E)) (Fr.of_ext E)
theorem edChange (h : Ed0 P base W k u qs un A B cl rl rr) :
    Calls Tryz.prog 119 #[.pointer (some ⟨P, 0, none⟩)] W fun e w' => ∃ u', e = .returned (.tuple #[]) ∧ Ed2 P base W w' k u' (undoN un (toBA (textC A), toBA (textC B))) A B cl rl rr ∧ Fr (fun x => x = P ∨ u.ownBlock = some x) W w' := by
  refine (change_any P cl rl rr A B _ rfl k u qs un base W h.blk h.now h.ca.1 h.cb.1 h.ca.2 h.cb.2 h.bk h.hb h.hn).mono ?_
  rintro e w' ⟨u', rfl, hb, hs, f⟩
  have f' : Fr (fun x => x = P ∨ base ≤ x) W w' := f.mono (fun x hx => hx.elim .inl (fun e => .inr (h.bk.2.1.lt x e).1))
  exact ⟨u', rfl, ⟨hb, h.gap _ f', hs, f'⟩, f⟩
theorem edChangeE {w : World} (h : Ed0 P base W k u qs un A B cl rl rr) (E : Ext W w) :
    Calls Tryz.prog 119 #[.pointer (some ⟨P, 0, none⟩)] w fun e w' => ∃ u', e = .returned (.tuple #[]) ∧ Ed2 P base W w' k u' (undoN un (toBA (textC A), toBA (textC B))) A B cl rl rr ∧ Fr (fun x => x = P ∨ u.ownBlock = some x) w w' := by
  refine (edChange (h.ext E)).mono ?_
  rintro e w' ⟨u', rfl, g, f⟩
  exact ⟨u', rfl, ⟨g.blk, g.gap, g.bk, (Fr.of_ext E).tr g.fr⟩, f⟩
theorem split_at {xs : List Value} {n m : Nat} (h : xs.length = n + m) : ∃ x y, xs = x ++ y ∧ x.length = n ∧ y.length = m := ⟨xs.take n, xs.drop n, (List.take_append_drop n xs).symm, by simp; omega, by simp; omega⟩
end
end Go.Proofs.YtokjpnlmkecleaaGreatDoor

namespace Go.Proofs.YtokjpnlmkecleaaGreatDoor
open Go.RowKit
section
variable {P base : Nat} {W0 W : World} {k : ByteArray} {u : Value} {un : List (ByteArray × ByteArray)} {cl rl rr : List Value}
theorem EdR.pre {W' V w' : World} {A B : List (List Int × Int)} {d : Int} {e : Ending} (h : EdR P base V w' k un A B d e) (E : Ext W' V) : EdR P base W' w' k un A B d e := ⟨h.1, h.2.1, (Fr.of_ext E).tr h.2.2⟩
theorem Ed0.two {qs : List Nat} {A B : List (List Int × Int)} (h : Ed0 P base W k u qs un A B cl rl rr) : Ed2 P base W W k u un A B cl rl rr :=
  ⟨h.blk, h.now, fun _ f => (h.bk.ed h.blk f).read, Fr.refl _ _⟩
theorem edTakeL {A1 A2 B : List (List Int × Int)} (h : Ed2 P base W0 W k u un (A1 ++ A2) B cl rl rr) :
    Calls Tryz.prog 120 #[.pointer (some ⟨P, 0, none⟩), .int .i64 (A2.length : Int)] W fun e w' => ∃ v rl', e = .returned v ∧ Ed2 P base W0 w' k u un A1 B cl rl' rr ∧ ClsAt w' v A2 := by
  obtain ⟨hb, hg, hk, hf⟩ := id h
  obtain ⟨r1, r2, rfl, h1, h2⟩ := split_at (by rw [hg.na, List.length_append] : rl.length = A1.length + A2.length)
  rw [List.length_append] at hb
  refine (takeLeft_any P cl r1 r2 rr A1 A2 B _ k u W hb hg h1).mono ?_
  rintro e w' ⟨v, rfl, b', g', c', f'⟩
  exact ⟨v, r1, rfl, h.step b' g' f', c'⟩
theorem edTakeR {A B1 B2 : List (List Int × Int)} (h : Ed2 P base W0 W k u un A (B1 ++ B2) cl rl rr) :
    Calls Tryz.prog 121 #[.pointer (some ⟨P, 0, none⟩), .int .i64 (B1.length : Int)] W fun e w' => ∃ v rr', e = .returned v ∧ Ed2 P base W0 w' k u un A B2 cl rl rr' ∧ ClsAt w' v B1 := by
  obtain ⟨hb, hg, hk, hf⟩ := id h
  obtain ⟨r1, r2, rfl, h1, h2⟩ := split_at (by rw [hg.nb, List.length_append] : rr.length = B1.length + B2.length)
  rw [List.length_append] at hb
  refine (takeRight_any P cl rl r1 r2 A B1 B2 _ k u W hb hg h1).mono ?_
  rintro e w' ⟨v, rfl, b', g', c', f'⟩
  exact ⟨v, r2, rfl, h.step b' g' f', c'⟩
theorem edGoL {A1 A2 B : List (List Int × Int)} (h : Ed2 P base W0 W k u un (A1 ++ A2) B cl rl rr) :
    Calls Tryz.prog 85 #[.pointer (some ⟨P, 0, none⟩), .int .i64 (A2.length : Int)] W fun e w' => ∃ cl' rl' rr', e = .returned (.tuple #[]) ∧ Ed2 P base W0 w' k u un A1 (A2 ++ B) cl' rl' rr' := by
  obtain ⟨hb, hg, hk, hf⟩ := id h
  obtain ⟨r1, r2, rfl, h1, h2⟩ := split_at (by rw [hg.na, List.length_append] : rl.length = A1.length + A2.length)
  refine (goLeft_any P cl r1 r2 rr A1 A2 B _ _ _ rfl (List.length_append) rfl k u W hb hg h1 h2).mono ?_
  rintro e w' ⟨cl', rfl, b', g', f'⟩
  exact ⟨cl', _, _, rfl, h.step b' g' f'⟩
theorem edGoR {A B1 B2 : List (List Int × Int)} (hp : 0 < B1.length) (h : Ed2 P base W0 W k u un A (B1 ++ B2) cl rl rr) :
    Calls Tryz.prog 128 #[.pointer (some ⟨P, 0, none⟩), .int .i64 (B1.length : Int)] W fun e w' => ∃ cl' rl' rr', e = .returned (.tuple #[]) ∧ Ed2 P base W0 w' k u un (A ++ B1) B2 cl' rl' rr' := by
  obtain ⟨hb, hg, hk, hf⟩ := id h
  obtain ⟨r1, r2, rfl, h1, h2⟩ := split_at (by rw [hg.nb, List.length_append] : rr.length = B1.length + B2.length)
  rw [List.length_append] at hb
  refine (goRight_any P cl rl r1 r2 A B1 B2 _ _ rfl rfl hp k u W hb hg h1).mono ?_
  rintro e w' ⟨cl', rfl, b', g', f'⟩
  exact ⟨cl', _, _, rfl, h.step b' g' f'⟩
theorem edLeftOf {A B : List (List Int × Int)} (h : Ed2 P base W0 W k u un A B cl rl rr) :
    Calls Tryz.prog 104 #[.pointer (some ⟨P, 0, none⟩)] W fun e w' => e = .returned (.slice (some ⟨P, 0, none⟩) A.length 300) ∧ ClsAt w' (.slice (some ⟨P, 0, none⟩) A.length 300) A ∧ Ext W w' := by
  refine (gapLeft_any P cl rl rr A B _ k u W h.blk h.gap).mono ?_
  rintro e w' ⟨rfl, E⟩
  exact ⟨rfl, (h.gap.left h.blk 300 (by have := h.gap.fit; omega)).ext E, E⟩
theorem edRightOf {A B : List (List Int × Int)} (h : Ed2 P base W0 W k u un A B cl rl rr) :
    Calls Tryz.prog 105 #[.pointer (some ⟨P, 0, none⟩)] W fun e w' => ∃ ao cap, e = .returned (.slice ao B.length cap) ∧ ClsAt w' (.slice ao B.length cap) B ∧ Ext W w' := by
  refine (gapRight_any P cl rl rr A B _ _ rfl k u W h.blk h.gap).mono ?_
  rintro e w' ⟨v, rfl, hv, E⟩
  obtain ⟨rs, ao, ca, rfl, h2⟩ := id hv
  exact ⟨ao, ca, rfl, hv.ext E, E⟩
end
end Go.Proofs.YtokjpnlmkecleaaGreatDoor

namespace Go.Proofs.YtokjpnlmkecleaaGreatDoor
open Go.RowKit
theorem sk_ex (p : Nat → Bool) (n : Nat) : ∀ m i, n - i = m → i ≤ n → ∃ r, Sk p n i r
  | 0, i, hm, hi => ⟨i, Nat.le_refl _, by omega, fun j h1 h2 => by omega, fun h => by omega⟩
  | m + 1, i, hm, hi => by
    cases hp : p i with
    | false => exact ⟨i, Nat.le_refl _, hi, fun j h1 h2 => by omega, fun _ => hp⟩
    | true =>
      obtain ⟨r, h1, h2, h3, h4⟩ := sk_ex p n m (i + 1) (by omega) (by omega)
      refine ⟨r, by omega, h2, fun j h5 h6 => ?_, h4⟩
      by_cases e : j = i
      · rw [e, hp]
      · exact h3 j (by omega) h6
theorem wd_ex (p : Nat → Bool) (n : Nat) : Wd p n (wdN p n) := by
  obtain ⟨m, hm⟩ := sk_ex p n _ 0 rfl (Nat.zero_le _)
  obtain ⟨r, hr⟩ := sk_ex (fun j => !p j) n _ m rfl hm.2.1
  have h : Wd p n r := ⟨m, hm, hr⟩
  rw [wdN_eq h]
  exact h
def SmC (A : List (List Int × Int)) : Prop := ∀ c ∈ A, c.1.length ≤ 20000 ∧ I32s c.1
theorem SmC.flat {A : List (List Int × Int)} (h : SmC A) : (flat A).length ≤ A.length * 20000 := by
  induction A with
  | nil => exact Nat.zero_le _
  | cons c cs ih =>
    have h1 := (h c (by simp)).1
    have h2 := ih (fun d hd => h d (by simp [hd]))
    simp [Go.Proofs.YtokjpnlmkecleaaGreatDoor.flat]
    omega
theorem SmC.ck {A : List (List Int × Int)} (h : SmC A) (hl : A.length ≤ 600) : CkC A := by
  refine ⟨?_, fun j hj => ?_⟩
  · rw [← flat_len]
    have := h.flat
    omega
  · have e : cR A j = A[j].1 := by simp [cR, hj]
    rw [e]
    exact (h _ (List.getElem_mem hj)).2
theorem SmC.app {A B : List (List Int × Int)} (h1 : SmC A) (h2 : SmC B) : SmC (A ++ B) := fun c hc => (List.mem_append.1 hc).elim (h1 c) (h2 c)
theorem SmC.left {A B : List (List Int × Int)} (h : SmC (A ++ B)) : SmC A := fun c hc => h c (by simp [hc])
theorem SmC.right {A B : List (List Int × Int)} (h : SmC (A ++ B)) : SmC B := fun c hc => h c (by simp [hc])
theorem clus_i32 (xs : List Int) : ∀ c ∈ clusC xs, I32s c.1 := fun c hc => by
  obtain ⟨j, hj, e⟩ := List.getElem_of_mem hc
  have := clF_i32 xs xs.length j
  have e2 : cR (clF xs xs.length) j = c.1 := by
    show cR (clusC xs) j = c.1
    simp [cR, hj, e]
  rwa [e2] at this
theorem cut_sm {L : List Int} (h : (cleanL L).length ≤ 300) : SmC (cutC L) := fun c hc => by
  refine ⟨?_, clus_i32 _ c hc⟩
  obtain ⟨j, hj, e⟩ := List.getElem_of_mem hc
  have := clF_runes (cleanL L) (cleanL L).length j
  have e2 : cR (clF (cleanL L) (cleanL L).length) j = c.1 := by
    show cR (cutC L) j = c.1
    simp [cR, hj, e]
  rw [e2] at this
  omega
theorem flat_mem {A : List (List Int × Int)} {c : List Int × Int} (h : c ∈ A) : c.1.length ≤ (flat A).length := by
  induction A with
  | nil => simp at h
  | cons d ds ih =>
    simp [flat]
    rcases List.mem_cons.1 h with rfl | h
    · omega
    · have := ih h
      omega
theorem flat_sm {xs : List Int} (h : (flat (clusC xs)).length ≤ 300) : SmC (clusC xs) := fun c hc => ⟨by have := flat_mem hc; omega, clus_i32 _ c hc⟩
def Done (o : LD) (P base : Nat) (W : World) (d : Int) (w' : World) : Prop := ∃ A' B', d = o.d ∧ toBA (textC A') = o.a ∧ toBA (textC B') = o.b ∧ CkC A' ∧ CkC B' ∧ o.un.length ≤ 50 ∧ Ed1 P w' o.c o.un A' B' ∧ Fr (fun x => x = P ∨ base ≤ x) W w'
theorem Done.of {o : LD} {P base : Nat} {W w' : World} {A' B' : List (List Int × Int)} {e : Ending} (h : EdR P base W w' o.c o.un A' B' o.d e) (ha : toBA (textC A') = o.a) (hb : toBA (textC B') = o.b) (sA : SmC A') (sB : SmC B') (hn : o.un.length ≤ 50) : ∃ d, e = .returned (.int .i64 d) ∧ Done o P base W d w' := by
  obtain ⟨h1, h2, h3⟩ := h
  have hf : A'.length + B'.length ≤ 300 := by
    obtain ⟨cl, rl, rr, u, _, hg, _⟩ := h2
    exact hg.fit
  exact ⟨o.d, h1, A', B', rfl, ha, hb, sA.ck (by omega), sB.ck (by omega), hn, h2, h3⟩
theorem Done.pre {o : LD} {P base : Nat} {W V w' : World} {d : Int} (h : Done o P base V d w') (E : Ext W V) : Done o P base W d w' := by
  obtain ⟨A', B', h1, h2, h3, h4, h5, h6, h7, h8⟩ := h
  exact ⟨A', B', h1, h2, h3, h4, h5, h6, h7, (Fr.of_ext E).tr h8⟩
structure LnOk (a b c : ByteArray) (un : List (ByteArray × ByteArray)) : Prop where
  sa : settleL (baL a) = baL a
  sb : settleL (baL b) = baL b
  sc : settleL (baL c) = baL c
  nab : (cleanL (baL a)).length + (cleanL (baL b)).length ≤ 300
  nc : (cleanL (baL c)).length ≤ 300
  n : un.length ≤ 50
  us : ∀ s ∈ un, settleL (baL s.1) = baL s.1 ∧ settleL (baL s.2) = baL s.2 ∧ (cleanL (baL s.1)).length + (cleanL (baL s.2)).length ≤ 300
  za : a.size ≤ 1048576
  zb : b.size ≤ 1048576
  zc : c.size ≤ 1048576
  zu : ∀ s ∈ un, s.1.size ≤ 1048576 ∧ s.2.size ≤ 1048576
section
variable {a b c : ByteArray} {un : List (ByteArray × ByteArray)}
theorem LnOk.ea (h : LnOk a b c un) : toBA (textC (cutC (baL a))) = a := by rw [show textC (cutC (baL a)) = baL a from h.sa, toBA_baL]
theorem LnOk.eb (h : LnOk a b c un) : toBA (textC (cutC (baL b))) = b := by rw [show textC (cutC (baL b)) = baL b from h.sb, toBA_baL]
theorem LnOk.smA (h : LnOk a b c un) : SmC (cutC (baL a)) := cut_sm (by have := h.nab; omega)
theorem LnOk.smB (h : LnOk a b c un) : SmC (cutC (baL b)) := cut_sm (by have := h.nab; omega)
theorem LnOk.un50 (h : LnOk a b c un) (s : ByteArray × ByteArray) : (undoN un s).length ≤ 50 := undoN_len un s h.n
theorem done_mvL (h : LnOk a b c un) {A1 A2 : List (List Int × Int)} (hA : cutC (baL a) = A1 ++ A2) (nw : Int) {P base : Nat} {W w' : World} {e : Ending} (r : EdR P base W w' c un A1 (A2 ++ cutC (baL b)) (if A2.length = 0 then nw else 1) e) :
    ∃ d, e = .returned (.int .i64 d) ∧ Done (if A2.length = 0 then ⟨a, b, c, un, nw⟩ else edMv a b c un A1.length) P base W d w' := by
  have sA := h.smA
  rw [hA] at sA
  by_cases h0 : A2.length = 0
  · rw [if_pos h0] at r ⊢
    obtain rfl : A2 = [] := List.eq_nil_of_length_eq_zero h0
    rw [List.append_nil] at hA
    refine Done.of (A' := A1) (B' := cutC (baL b)) r ?_ h.eb sA.left h.smB h.n
    rw [← hA]
    exact h.ea
  · rw [if_neg h0] at r ⊢
    refine Done.of (o := edMv a b c un A1.length) r ?_ ?_ sA.left (sA.right.app h.smB) h.n
    · simp [edMv, hA]
    · simp [edMv, hA]
theorem done_mvR (h : LnOk a b c un) {B1 B2 : List (List Int × Int)} (hB : cutC (baL b) = B1 ++ B2) (nw : Int) {P base : Nat} {W w' : World} {e : Ending} (r : EdR P base W w' c un (cutC (baL a) ++ B1) B2 (if B1.length = 0 then nw else 1) e) :
    ∃ d, e = .returned (.int .i64 d) ∧ Done (if B1.length = 0 then ⟨a, b, c, un, nw⟩ else edMv a b c un ((cutC (baL a)).length + B1.length)) P base W d w' := by
  have sB := h.smB
  rw [hB] at sB
  by_cases h0 : B1.length = 0
  · rw [if_pos h0] at r ⊢
    obtain rfl : B1 = [] := List.eq_nil_of_length_eq_zero h0
    rw [List.nil_append] at hB
    rw [List.append_nil] at r
    refine Done.of (A' := cutC (baL a)) (B' := B2) r h.ea ?_ h.smA sB.right h.n
    rw [← hB]
    exact h.eb
  · rw [if_neg h0] at r ⊢
    have e1 : (cutC (baL a)).length + B1.length = (cutC (baL a) ++ B1).length := by simp
    refine Done.of (o := edMv a b c un ((cutC (baL a)).length + B1.length)) r ?_ ?_ (h.smA.app sB.left) sB.right h.n
    · rw [edMv, hB, e1, ← List.append_assoc, List.take_left]
    · rw [edMv, hB, e1, ← List.append_assoc, List.drop_left]
end
end Go.Proofs.YtokjpnlmkecleaaGreatDoor

namespace Go.Proofs.YtokjpnlmkecleaaGreatDoor
open Go.RowKit
set_option maxRecDepth 10000 in
set_option maxHeartbeats 1000000 in
theorem atRight_any (B : Nat) (v : Value) (cs : List (List Int × Int)) (j : Nat) (hj : j < cs.length) (hl : cs.length ≤ 16777216) (w : World) (hB : w.cell? ⟨B, 0, none⟩ = some v) (hv : ClsAt w v cs) :
    Calls Tryz.prog 126 #[.int .i64 (j : Int), .pointer (some ⟨B, 0, none⟩)] w fun e w' => ∃ rv, e = .returned (.agg #[rv, .int .i64 (cW cs (j))]) ∧ IntsAt w' .i32 rv (cR cs (j)) ∧ Ext w w' := by
  obtain ⟨rs, ao, ca, rfl, hca, hr, hx⟩ := hv
  obtain ⟨b, off, rfl, hc⟩ := hx (by omega)
  obtain ⟨m, hm⟩ : ∃ m, m = j := ⟨_, rfl⟩
  rw [← hm]
  have hmn : m < cs.length := by omega
  have g1 : ∀ o, (w.alloc o).cell? ⟨b, off + m * 2, none⟩ = some (rV rs m) := fun o => ((Ext.refl w).alloc o).cell (hc m hmn).1
  have g2 : ∀ o, (w.alloc o).cell? ⟨b, off + m * 2 + 1, none⟩ = some (.int .i64 (cW cs m)) := fun o => ((Ext.refl w).alloc o).cell (hc m hmn).2
  have bB : ∀ o, (w.alloc o).cell? ⟨B, 0, none⟩ = some (.slice (some ⟨b, off, none⟩) cs.length ca) := fun o => ((Ext.refl w).alloc o).cell hB
  have hI := hr m hmn
  obtain ⟨ra, rc, hrv, _⟩ := id hI
  rw [hrv] at g1 hI
  have HI := hide hI
  have bm : (m : Int) < (cs.length : Int) := by omega
  clear hc hx hr hB hm hI hrv
  go_enter Tryz.func126, Tryz.ntmps126
  go_wp2
  exact bodyPost_ret (v := .agg #[.slice ra (cR cs m).length rc, .int .i64 (cW cs m)]) (by simp [results, Tryz.results126, go_sem]) rfl ⟨_, rfl, (unhide HI).ext ((Ext.refl w).alloc _), (Ext.refl w).alloc _⟩
set_option maxRecDepth 10000 in
set_option maxHeartbeats 1000000 in
theorem atFront_any (B : Nat) (v : Value) (cs : List (List Int × Int)) (j : Nat) (hj : j < cs.length) (hl : cs.length ≤ 16777216) (w : World) (hB : w.cell? ⟨B, 0, none⟩ = some v) (hv : ClsAt w v cs) :
    Calls Tryz.prog 137 #[.int .i64 (j : Int), .pointer (some ⟨B, 0, none⟩)] w fun e w' => ∃ rv, e = .returned (.agg #[rv, .int .i64 (cW cs (cs.length - 1 - j))]) ∧ IntsAt w' .i32 rv (cR cs (cs.length - 1 - j)) ∧ Ext w w' := by
  obtain ⟨rs, ao, ca, rfl, hca, hr, hx⟩ := hv
  obtain ⟨b, off, rfl, hc⟩ := hx (by omega)
  obtain ⟨m, hm⟩ : ∃ m, m = cs.length - 1 - j := ⟨_, rfl⟩
  rw [← hm]
  have hmn : m < cs.length := by omega
  have g1 : ∀ o, (w.alloc o).cell? ⟨b, off + m * 2, none⟩ = some (rV rs m) := fun o => ((Ext.refl w).alloc o).cell (hc m hmn).1
  have g2 : ∀ o, (w.alloc o).cell? ⟨b, off + m * 2 + 1, none⟩ = some (.int .i64 (cW cs m)) := fun o => ((Ext.refl w).alloc o).cell (hc m hmn).2
  have bB : ∀ o, (w.alloc o).cell? ⟨B, 0, none⟩ = some (.slice (some ⟨b, off, none⟩) cs.length ca) := fun o => ((Ext.refl w).alloc o).cell hB
  have hI := hr m hmn
  obtain ⟨ra, rc, hrv, _⟩ := id hI
  rw [hrv] at g1 hI
  have HI := hide hI
  have bm : (m : Int) < (cs.length : Int) := by omega
  have hw1 : IntKind.i64.wrap ((cs.length : Int) - 1) = (cs.length : Int) - 1 := by rw [IntKind.wrap_i64]; omega
  have hw2 : IntKind.i64.wrap ((cs.length : Int) - 1 - (j : Int)) = (m : Int) := by rw [IntKind.wrap_i64]; omega
  clear hc hx hr hB hm hI hrv
  go_enter Tryz.func137, Tryz.ntmps137
  go_wp2
  exact bodyPost_ret (v := .agg #[.slice ra (cR cs m).length rc, .int .i64 (cW cs m)]) (by simp [results, Tryz.results137, go_sem]) rfl ⟨_, rfl, (unhide HI).ext ((Ext.refl w).alloc _), (Ext.refl w).alloc _⟩
end Go.Proofs.YtokjpnlmkecleaaGreatDoor

namespace Go.Proofs.YtokjpnlmkecleaaGreatDoor
open Go.RowKit
set_option maxRecDepth 10000 in
set_option maxHeartbeats 2000000 in
theorem wordRight_len (B : Nat) (v : Value) (cs : List (List Int × Int)) (hl : cs.length ≤ 16777216) (w : World) (hB : w.cell? ⟨B, 0, none⟩ = some v) (hv : ClsAt w v cs) :
    Calls Tryz.prog 125 #[.int .i64 (cs.length : Int), .func (.func 126) #[] #[.pointer (some ⟨B, 0, none⟩)]] w fun e w' => ∃ r : Nat, e = .returned (.int .i64 (r : Int)) ∧ Wd (fun j => spB (cR cs j)) cs.length r ∧ Ext w w' := by
  have HAt := hide (fun W (E : Ext w W) j (hj : j < cs.length) => atRight_any B v cs j hj hl W (E.cell hB) (hv.ext E))
  clear hB hv
  go_enter Tryz.func125, Tryz.ntmps125
  go_wp2
  go_loopw [5] (fun i wr => ∃ (j : Nat), j ≤ cs.length ∧ i = .int .i64 j ∧ Hid (∀ q, q < j → spB (cR cs q) = true) ∧ Ext w wr) (fun i _ => cs.length - (intOf i).toNat)
  case atStart => exact ⟨0, Nat.zero_le _, rfl, hide (fun q hq => by omega), Ext.refl _⟩
  case round =>
    obtain ⟨j, hj, rfl, HJ, hE⟩ := hrel
    by_cases hlt : j < cs.length
    · have bj : (j : Int) < (cs.length : Int) := by omega
      go_wp2_with fail
      refine ((unhide HAt) _ hE j hlt).mono ?_
      rintro e w1 ⟨rv1, rfl, i1, E1⟩
      have HS := hide (isSpace_any rv1 (cW cs j) (cR cs j) w1 i1)
      have hE1 := hE.trans E1
      clear i1 E1
      go_wp2_with fail
      refine (unhide HS).mono ?_
      rintro e w2 ⟨rfl, E2⟩
      have hE2 := hE1.trans E2
      cases hb : spB (cR cs j) with
      | true =>
        have HJ3 : Hid (∀ q, q < j + 1 → spB (cR cs q) = true) := hide (fun q hq => by
          by_cases e : q = j
          · subst e; exact hb
          · exact (unhide HJ) q (by omega))
        clear HS hb E2
        go_wp2
        go_roundw
        case rel => exact ⟨j + 1, by omega, by go_num, HJ3, hE2⟩
        case measure => simp [intOf]; omega
      | false =>
        have HSK : Hid (Sk (fun j => spB (cR cs j)) cs.length 0 j) := hide ⟨Nat.zero_le _, hj, fun q _ hq => (unhide HJ) q hq, fun _ => hb⟩
        clear HS hb E2 hE hE1
        go_wp2
        go_loopw [5] (fun i wr => ∃ (r : Nat), j ≤ r ∧ r ≤ cs.length ∧ i = .int .i64 r ∧ Hid (∀ q, j ≤ q → q < r → (!spB (cR cs q)) = true) ∧ Ext w wr) (fun i _ => cs.length - (intOf i).toNat)
        case atStart => exact ⟨j, Nat.le_refl _, hj, rfl, hide (fun q h1 h2 => by omega), hE2⟩
        case round =>
          obtain ⟨r, hjr, hr9, rfl, HJ2, hE3⟩ := hrel
          by_cases hlt2 : r < cs.length
          · have bj2 : (r : Int) < (cs.length : Int) := by omega
            go_wp2_with fail
            refine ((unhide HAt) _ hE3 r hlt2).mono ?_
            rintro e w4 ⟨rv4, rfl, i4, E4⟩
            have HS4 := hide (isSpace_any rv4 (cW cs r) (cR cs r) w4 i4)
            have hE4 := hE3.trans E4
            clear i4 E4
            go_wp2_with fail
            refine (unhide HS4).mono ?_
            rintro e w5 ⟨rfl, E5⟩
            have hE5 := hE4.trans E5
            cases hb2 : spB (cR cs r) with
            | false =>
              have HJ3 : Hid (∀ q, j ≤ q → q < r + 1 → (!spB (cR cs q)) = true) := hide (fun q h1 h2 => by
                by_cases e : q = r
                · subst e; rw [hb2]; rfl
                · exact (unhide HJ2) q h1 (by omega))
              clear HS4 hb2 E5
              go_wp2
              go_roundw
              case rel => exact ⟨r + 1, by omega, by omega, by go_num, HJ3, hE5⟩
              case measure => simp [intOf]; omega
            | true =>
              have HW : Hid (Wd (fun j => spB (cR cs j)) cs.length r) := hide ⟨j, unhide HSK, hjr, hr9, unhide HJ2, fun _ => by simp [hb2]⟩
              clear HS4 hb2 E5
              go_wp2
              go_ret
              exact ⟨r, rfl, unhide HW, hE5⟩
          · obtain rfl : r = cs.length := by omega
            have hb7 : ¬ (cs.length : Int) < (cs.length : Int) := by omega
            have HW : Hid (Wd (fun j => spB (cR cs j)) cs.length cs.length) := hide ⟨j, unhide HSK, hjr, hr9, unhide HJ2, fun h => by omega⟩
            go_wp2
            go_ret
            exact ⟨_, rfl, unhide HW, hE3⟩
    · have hb9 : ¬ (j : Int) < (cs.length : Int) := by omega
      have HSK : Hid (Sk (fun j => spB (cR cs j)) cs.length 0 j) := hide ⟨Nat.zero_le _, hj, fun q _ hq => (unhide HJ) q hq, fun h => by omega⟩
      have hE2 := hE
      clear hE
      go_wp2
      go_loopw [5] (fun i wr => ∃ (r : Nat), j ≤ r ∧ r ≤ cs.length ∧ i = .int .i64 r ∧ Hid (∀ q, j ≤ q → q < r → (!spB (cR cs q)) = true) ∧ Ext w wr) (fun i _ => cs.length - (intOf i).toNat)
      case atStart => exact ⟨j, Nat.le_refl _, hj, rfl, hide (fun q h1 h2 => by omega), hE2⟩
      case round =>
        obtain ⟨r, hjr, hr9, rfl, HJ2, hE3⟩ := hrel
        by_cases hlt2 : r < cs.length
        · have bj2 : (r : Int) < (cs.length : Int) := by omega
          go_wp2_with fail
          refine ((unhide HAt) _ hE3 r hlt2).mono ?_
          rintro e w4 ⟨rv4, rfl, i4, E4⟩
          have HS4 := hide (isSpace_any rv4 (cW cs r) (cR cs r) w4 i4)
          have hE4 := hE3.trans E4
          clear i4 E4
          go_wp2_with fail
          refine (unhide HS4).mono ?_
          rintro e w5 ⟨rfl, E5⟩
          have hE5 := hE4.trans E5
          cases hb2 : spB (cR cs r) with
          | false =>
            have HJ3 : Hid (∀ q, j ≤ q → q < r + 1 → (!spB (cR cs q)) = true) := hide (fun q h1 h2 => by
              by_cases e : q = r
              · subst e; rw [hb2]; rfl
              · exact (unhide HJ2) q h1 (by omega))
            clear HS4 hb2 E5
            go_wp2
            go_roundw
            case rel => exact ⟨r + 1, by omega, by omega, by go_num, HJ3, hE5⟩
            case measure => simp [intOf]; omega
          | true =>
            have HW : Hid (Wd (fun j => spB (cR cs j)) cs.length r) := hide ⟨j, unhide HSK, hjr, hr9, unhide HJ2, fun _ => by simp [hb2]⟩
            clear HS4 hb2 E5
            go_wp2
            go_ret
            exact ⟨r, rfl, unhide HW, hE5⟩
        · obtain rfl : r = cs.length := by omega
          have hb7 : ¬ (cs.length : Int) < (cs.length : Int) := by omega
          have HW : Hid (Wd (fun j => spB (cR cs j)) cs.length cs.length) := hide ⟨j, unhide HSK, hjr, hr9, unhide HJ2, fun h => by omega⟩
          go_wp2
          go_ret
          exact ⟨_, rfl, unhide HW, hE3⟩
set_option maxRecDepth 10000 in
set_option maxHeartbeats 2000000 in
theorem wordFront_len (B : Nat) (v : Value) (cs : List (List Int × Int)) (hl : cs.length ≤ 16777216) (w : World) (hB : w.cell? ⟨B, 0, none⟩ = some v) (hv : ClsAt w v cs) :
    Calls Tryz.prog 125 #[.int .i64 (cs.length : Int), .func (.func 137) #[] #[.pointer (some ⟨B, 0, none⟩)]] w fun e w' => ∃ r : Nat, e = .returned (.int .i64 (r : Int)) ∧ Wd (fun j => spB (cR cs (cs.length - 1 - j))) cs.length r ∧ Ext w w' := by
  have HAt := hide (fun W (E : Ext w W) j (hj : j < cs.length) => atFront_any B v cs j hj hl W (E.cell hB) (hv.ext E))
  clear hB hv
  go_enter Tryz.func125, Tryz.ntmps125
  go_wp2
  go_loopw [5] (fun i wr => ∃ (j : Nat), j ≤ cs.length ∧ i = .int .i64 j ∧ Hid (∀ q, q < j → spB (cR cs (cs.length - 1 - q)) = true) ∧ Ext w wr) (fun i _ => cs.length - (intOf i).toNat)
  case atStart => exact ⟨0, Nat.zero_le _, rfl, hide (fun q hq => by omega), Ext.refl _⟩
  case round =>
    obtain ⟨j, hj, rfl, HJ, hE⟩ := hrel
    by_cases hlt : j < cs.length
    · have bj : (j : Int) < (cs.length : Int) := by omega
      go_wp2_with fail
      refine ((unhide HAt) _ hE j hlt).mono ?_
      rintro e w1 ⟨rv1, rfl, i1, E1⟩
      have HS := hide (isSpace_any rv1 (cW cs (cs.length - 1 - j)) (cR cs (cs.length - 1 - j)) w1 i1)
      have hE1 := hE.trans E1
      clear i1 E1
      go_wp2_with fail
      refine (unhide HS).mono ?_
      rintro e w2 ⟨rfl, E2⟩
      have hE2 := hE1.trans E2
      cases hb : spB (cR cs (cs.length - 1 - j)) with
      | true =>
        have HJ3 : Hid (∀ q, q < j + 1 → spB (cR cs (cs.length - 1 - q)) = true) := hide (fun q hq => by
          by_cases e : q = j
          · subst e; exact hb
          · exact (unhide HJ) q (by omega))
        clear HS hb E2
        go_wp2
        go_roundw
        case rel => exact ⟨j + 1, by omega, by go_num, HJ3, hE2⟩
        case measure => simp [intOf]; omega
      | false =>
        have HSK : Hid (Sk (fun j => spB (cR cs (cs.length - 1 - j))) cs.length 0 j) := hide ⟨Nat.zero_le _, hj, fun q _ hq => (unhide HJ) q hq, fun _ => hb⟩
        clear HS hb E2 hE hE1
        go_wp2
        go_loopw [5] (fun i wr => ∃ (r : Nat), j ≤ r ∧ r ≤ cs.length ∧ i = .int .i64 r ∧ Hid (∀ q, j ≤ q → q < r → (!spB (cR cs (cs.length - 1 - q))) = true) ∧ Ext w wr) (fun i _ => cs.length - (intOf i).toNat)
        case atStart => exact ⟨j, Nat.le_refl _, hj, rfl, hide (fun q h1 h2 => by omega), hE2⟩
        case round =>
          obtain ⟨r, hjr, hr9, rfl, HJ2, hE3⟩ := hrel
          by_cases hlt2 : r < cs.length
          · have bj2 : (r : Int) < (cs.length : Int) := by omega
            go_wp2_with fail
            refine ((unhide HAt) _ hE3 r hlt2).mono ?_
            rintro e w4 ⟨rv4, rfl, i4, E4⟩
            have HS4 := hide (isSpace_any rv4 (cW cs (cs.length - 1 - r)) (cR cs (cs.length - 1 - r)) w4 i4)
            have hE4 := hE3.trans E4
            clear i4 E4
            go_wp2_with fail
            refine (unhide HS4).mono ?_
            rintro e w5 ⟨rfl, E5⟩
            have hE5 := hE4.trans E5
            cases hb2 : spB (cR cs (cs.length - 1 - r)) with
            | false =>
              have HJ3 : Hid (∀ q, j ≤ q → q < r + 1 → (!spB (cR cs (cs.length - 1 - q))) = true) := hide (fun q h1 h2 => by
                by_cases e : q = r
                · subst e; rw [hb2]; rfl
                · exact (unhide HJ2) q h1 (by omega))
              clear HS4 hb2 E5
              go_wp2
              go_roundw
              case rel => exact ⟨r + 1, by omega, by omega, by go_num, HJ3, hE5⟩
              case measure => simp [intOf]; omega
            | true =>
              have HW : Hid (Wd (fun j => spB (cR cs (cs.length - 1 - j))) cs.length r) := hide ⟨j, unhide HSK, hjr, hr9, unhide HJ2, fun _ => by simp [hb2]⟩
              clear HS4 hb2 E5
              go_wp2
              go_ret
              exact ⟨r, rfl, unhide HW, hE5⟩
          · obtain rfl : r = cs.length := by omega
            have hb7 : ¬ (cs.length : Int) < (cs.length : Int) := by omega
            have HW : Hid (Wd (fun j => spB (cR cs (cs.length - 1 - j))) cs.length cs.length) := hide ⟨j, unhide HSK, hjr, hr9, unhide HJ2, fun h => by omega⟩
            go_wp2
            go_ret
            exact ⟨_, rfl, unhide HW, hE3⟩
    · have hb9 : ¬ (j : Int) < (cs.length : Int) := by omega
      have HSK : Hid (Sk (fun j => spB (cR cs (cs.length - 1 - j))) cs.length 0 j) := hide ⟨Nat.zero_le _, hj, fun q _ hq => (unhide HJ) q hq, fun h => by omega⟩
      have hE2 := hE
      clear hE
      go_wp2
      go_loopw [5] (fun i wr => ∃ (r : Nat), j ≤ r ∧ r ≤ cs.length ∧ i = .int .i64 r ∧ Hid (∀ q, j ≤ q → q < r → (!spB (cR cs (cs.length - 1 - q))) = true) ∧ Ext w wr) (fun i _ => cs.length - (intOf i).toNat)
      case atStart => exact ⟨j, Nat.le_refl _, hj, rfl, hide (fun q h1 h2 => by omega), hE2⟩
      case round =>
        obtain ⟨r, hjr, hr9, rfl, HJ2, hE3⟩ := hrel
        by_cases hlt2 : r < cs.length
        · have bj2 : (r : Int) < (cs.length : Int) := by omega
          go_wp2_with fail
          refine ((unhide HAt) _ hE3 r hlt2).mono ?_
          rintro e w4 ⟨rv4, rfl, i4, E4⟩
          have HS4 := hide (isSpace_any rv4 (cW cs (cs.length - 1 - r)) (cR cs (cs.length - 1 - r)) w4 i4)
          have hE4 := hE3.trans E4
          clear i4 E4
          go_wp2_with fail
          refine (unhide HS4).mono ?_
          rintro e w5 ⟨rfl, E5⟩
          have hE5 := hE4.trans E5
          cases hb2 : spB (cR cs (cs.length - 1 - r)) with
          | false =>
            have HJ3 : Hid (∀ q, j ≤ q → q < r + 1 → (!spB (cR cs (cs.length - 1 - q))) = true) := hide (fun q h1 h2 => by
              by_cases e : q = r
              · subst e; rw [hb2]; rfl
              · exact (unhide HJ2) q h1 (by omega))
            clear HS4 hb2 E5
            go_wp2
            go_roundw
            case rel => exact ⟨r + 1, by omega, by omega, by go_num, HJ3, hE5⟩
            case measure => simp [intOf]; omega
          | true =>
            have HW : Hid (Wd (fun j => spB (cR cs (cs.length - 1 - j))) cs.length r) := hide ⟨j, unhide HSK, hjr, hr9, unhide HJ2, fun _ => by simp [hb2]⟩
            clear HS4 hb2 E5
            go_wp2
            go_ret
            exact ⟨r, rfl, unhide HW, hE5⟩
        · obtain rfl : r = cs.length := by omega
          have hb7 : ¬ (cs.length : Int) < (cs.length : Int) := by omega
          have HW : Hid (Wd (fun j => spB (cR cs (cs.length - 1 - j))) cs.length cs.length) := hide ⟨j, unhide HSK, hjr, hr9, unhide HJ2, fun h => by omega⟩
          go_wp2
          go_ret
          exact ⟨_, rfl, unhide HW, hE3⟩
end Go.Proofs.YtokjpnlmkecleaaGreatDoor

namespace Go.Proofs.YtokjpnlmkecleaaGreatDoor
open Go.RowKit
section
variable {P base : Nat} {W0 W : World} {k : ByteArray} {u : Value} {un : List (ByteArray × ByteArray)} {cl rl rr : List Value}
set_option maxRecDepth 10000 in
set_option maxHeartbeats 4000000 in
theorem edGoLeft_any {A1 A2 B : List (List Int × Int)} (nw : Int) (h : Ed2 P base W0 W k u un (A1 ++ A2) B cl rl rr) :
    Calls Tryz.prog 122 #[.pointer (some ⟨P, 0, none⟩), .int .i64 (A2.length : Int), .int .i64 nw] W fun e w' => EdR P base W0 w' k un A1 (A2 ++ B) (if A2.length = 0 then nw else 1) e := by
  have H := hide (edGoL h)
  have H0 := hide h
  by_cases h0 : A2.length = 0
  · obtain rfl : A2 = [] := List.eq_nil_of_length_eq_zero h0
    rw [List.append_nil] at H0
    clear H h h0
    go_enter Tryz.func122, Tryz.ntmps122
    go_wp2
    exact bodyPost_ret (v := .int .i64 nw) (by simp [results, Tryz.results122, go_sem]) rfl ((unhide H0).end nw)
  · rw [if_neg h0]
    obtain ⟨n, hn⟩ : ∃ n, A2.length = n := ⟨_, rfl⟩
    rw [hn] at H h0 ⊢
    have hI : ¬ (n : Int) = 0 := by omega
    clear h hn H0
    go_enter Tryz.func122, Tryz.ntmps122
    go_wp2_with fail
    refine (unhide H).mono ?_
    rintro e w' ⟨cl', rl', rr', rfl, h2⟩
    have H2 := hide h2
    clear h2 H
    go_wp2
    exact bodyPost_ret (v := .int .i64 1) (by simp [results, Tryz.results122, go_sem]) rfl ((unhide H2).end 1)
set_option maxRecDepth 10000 in
set_option maxHeartbeats 4000000 in
theorem edGoRight_any {A B1 B2 : List (List Int × Int)} (nw : Int) (h : Ed2 P base W0 W k u un A (B1 ++ B2) cl rl rr) :
    Calls Tryz.prog 123 #[.pointer (some ⟨P, 0, none⟩), .int .i64 (B1.length : Int), .int .i64 nw] W fun e w' => EdR P base W0 w' k un (A ++ B1) B2 (if B1.length = 0 then nw else 1) e := by
  have H := hide (fun hp => edGoR hp h)
  have H0 := hide h
  by_cases h0 : B1.length = 0
  · obtain rfl : B1 = [] := List.eq_nil_of_length_eq_zero h0
    rw [List.nil_append] at H0
    rw [List.append_nil]
    clear H h h0
    go_enter Tryz.func123, Tryz.ntmps123
    go_wp2
    exact bodyPost_ret (v := .int .i64 nw) (by simp [results, Tryz.results123, go_sem]) rfl ((unhide H0).end nw)
  · rw [if_neg h0]
    replace H := hide ((unhide H) (by omega))
    obtain ⟨n, hn⟩ : ∃ n, B1.length = n := ⟨_, rfl⟩
    rw [hn] at H h0 ⊢
    have hI : ¬ (n : Int) = 0 := by omega
    clear h hn H0
    go_enter Tryz.func123, Tryz.ntmps123
    go_wp2_with fail
    refine (unhide H).mono ?_
    rintro e w' ⟨cl', rl', rr', rfl, h2⟩
    have H2 := hide h2
    clear h2 H
    go_wp2
    exact bodyPost_ret (v := .int .i64 1) (by simp [results, Tryz.results123, go_sem]) rfl ((unhide H2).end 1)
set_option maxRecDepth 10000 in
set_option maxHeartbeats 4000000 in
theorem edHome_any {A B : List (List Int × Int)} (kd : Int) (rv : Value) (h : Ed2 P base W0 W k u un A B cl rl rr) :
    Calls Tryz.prog 92 #[.pointer (some ⟨P, 0, none⟩), .agg #[.int .i64 kd, rv]] W fun e w' => EdR P base W0 w' k un [] (A ++ B) (if A.length = 0 then 0 else 1) e := by
  replace h := h.ext ((Ext.refl W).alloc (.cells #[.int .i64 kd, rv] 28))
  have H1 := hide (edLeftOf h)
  have H2 := hide (fun w (E : Ext _ w) => edGoLeft_any (A1 := []) (A2 := A) 0 (by rw [List.nil_append]; exact h.ext E))
  obtain ⟨n, hn⟩ : ∃ n, A.length = n := ⟨_, rfl⟩
  rw [hn] at H1 H2 ⊢
  obtain ⟨d, hd⟩ : ∃ d : Int, d = if n = 0 then 0 else 1 := ⟨_, rfl⟩
  rw [← hd] at H2 ⊢
  clear h hn hd
  go_enter Tryz.func92, Tryz.ntmps92
  go_wp2_with fail
  refine (unhide H1).mono ?_
  rintro e w1 ⟨rfl, -, E1⟩
  have H2' := hide ((unhide H2) w1 E1)
  clear H1 H2 E1
  go_wp2_with fail
  refine (unhide H2').mono ?_
  rintro e w2 ⟨rfl, h3⟩
  have H3 := hide h3
  clear h3 H2'
  go_wp2
  exact bodyPost_ret (v := .int .i64 d) (by simp [results, Tryz.results92, go_sem]) rfl ⟨rfl, unhide H3⟩
end
end Go.Proofs.YtokjpnlmkecleaaGreatDoor
