import Derived.Deep.DeepCutAuto
import Derived.Deep.RegionLaw
import Derived.Deep.CutBlock
import Derived.Deep.RegionHeld3
import Derived.Test.YtokjpnlmkecleaaGreatDoorEdG
namespace Go.Proofs.YtokjpnlmkecleaaGreatDoor
open Go.RowKit
theorem Fr.offG {S : Nat → Prop} {G : Nat} {W0 W w' : World} (h : Fr (fun q => q = G) W0 W) (k : Fr S W w') (hS : ∀ x, S x → W0.heap.size ≤ x) : Fr (fun q => q = G) W0 w' := Fr.off h k (fun x hx => .inr (hS x hx))
set_option maxRecDepth 10000 in
set_option maxHeartbeats 8000000 in
theorem line_any (P : Nat) (cl rl rr : List Value) (A B : List (List Int × Int)) (bh : Nat) (hbh : bh = 300 - B.length) (k : ByteArray) (u : Value) (un : List (ByteArray × ByteArray)) (W : World) (hP : W.heap[P]? = some (.cells (edC cl (A.length : Int) (bh : Int) k u) 99 (0, 0))) (hG : GapIn P W cl rl rr A B) (zA : A.length + sumR A A.length ≤ 16777216) (zB : B.length + sumR B B.length ≤ 16777216) (iA : ∀ j, j < A.length → I32s (cR A j)) (iB : ∀ j, j < B.length → I32s (cR B j)) (hU : BackAt W u un) (hn : un.length ≤ 50) :
    Calls Tryz.prog 29 #[.pointer (some ⟨P, 0, none⟩)] W fun e w' => ∃ v, e = .returned (.agg #[.string (toBA (textC A)), .string (toBA (textC B)), .string k, v]) ∧ Own2 w' W.heap.size 49 v un.length (fun j => .string (lnT un j)) (fun j => .string (lnH un j)) ∧ Ext W w' := by
  obtain ⟨ic, hic, hc0, hc1, hc2⟩ := info_parts infoSnap
  have infoS : (Tryz.prog.info? 49).map (·.size) = some 2 := by kernel_rfl
  have infoL : (Tryz.prog.info? 25).map (·.size) = some 4 := by kernel_rfl
  have hl := hG.len
  have hPl : P < W.heap.size := (Array.getElem?_eq_some_iff.1 hP).1
  obtain ⟨qs, hq, ⟨ao, ca, rfl, hca, hxa⟩, hbx⟩ := hU
  have HS := hide (fun w (E : Ext W w) => gapSnap_any P cl rl rr A B bh hbh k _ w (E.kept hP) (hG.fr (Fr.of_ext E)) zA zB iA iB)
  have HP := hide hP
  have HX := hide hxa
  have HBX := hide hbx
  clear hP hG hbh zA zB iA iB hxa hbx
  obtain ⟨X, hX⟩ : ∃ X, X = toBA (textC A) := ⟨_, rfl⟩
  obtain ⟨Y, hY⟩ : ∃ Y, Y = toBA (textC B) := ⟨_, rfl⟩
  rw [← hX, ← hY] at HS ⊢
  clear hX hY
  go_enter Tryz.func29, Tryz.ntmps29
  go_wp2_with fail
  obtain ⟨V, hV⟩ : ∃ V, V = W.alloc (.cells #[.string { data := #[] }, .string { data := #[] }, .string { data := #[] }, .slice none 0 0] 25) := ⟨_, rfl⟩
  rw [← hV]
  have E0 : Ext W V := by rw [hV]; exact (Ext.refl W).alloc _
  have HR0 : Hid (V.heap[W.heap.size]? = some (.cells #[.string { data := #[] }, .string { data := #[] }, .string { data := #[] }, .slice none 0 0] 25 (0, 0))) := hide (by rw [hV]; exact new_block W _)
  have hz0 := lt_of_block (unhide HR0)
  clear hV
  refine ((unhide HS) _ E0).mono ?_
  rintro e w1 ⟨rfl, E1⟩
  clear HS
  have E01 := E0.trans E1
  have hz1 := E1.size
  replace HR0 := hide (E1.kept (unhide HR0))
  have HP1 := hide (E01.kept (unhide HP))
  clear E0 E1
  have HN := hide (heap_alloc_new w1 (.cells #[.string { data := #[] }, .string { data := #[] }] 49))
  go_upto_region 2 with (refine wpList_store_blk rfl 49 _ _ rfl rfl (w1.heap.size) rfl _ _ _ rfl (unhide HN) infoS rfl (by simp [Value.oneCell']) ?_; intro U HB hU; have HB9 := hide HB; have HU9 := hide hU; clear HB hU)
  have v0 : U.cell? ⟨w1.heap.size, 0, none⟩ = some (.string X) := cells_of (unhide HB9) 0 _ rfl
  have v1 : U.cell? ⟨w1.heap.size, 1, none⟩ = some (.string Y) := cells_of (unhide HB9) 1 _ rfl
  have EU : Ext w1 U := (unhide HU9).ext ((Ext.refl w1).alloc _) (fun q hq => by omega)
  have kP : U.cell? ⟨P, 602, none⟩ = some (.string k) := (edG_cells (EU.kept (unhide HP1)) hl).2.2.1
  have EWU := E01.trans EU
  have zU := EU.size
  replace HR0 := hide (EU.kept (unhide HR0))
  have HEU := hide EWU
  clear EU EWU HP1 E01 HB9 HU9 HN
  go_region_held3 (fun W => W.cell? ⟨w1.heap.size, 0, none⟩ = some (.string X) ∧ W.cell? ⟨w1.heap.size, 1, none⟩ = some (.string Y) ∧ W.cell? ⟨P, 602, none⟩ = some (.string k)) (first | exact ⟨v0, v1, kP⟩ | exact ⟨((Ext.refl U).alloc _).drew.cell v0, ((Ext.refl U).alloc _).drew.cell v1, ((Ext.refl U).alloc _).drew.cell kP⟩) (first | fail)
  obtain ⟨W2, hW2⟩ : ∃ W2, W2 = (U.alloc (.cells #[.string X, .string Y, .string k, .slice none 0 0] 25)).drew := ⟨_, rfl⟩
  have E2 : Ext U W2 := by rw [hW2]; exact ((Ext.refl U).alloc _).drew
  have HG0 : Hid (W2.heap[U.heap.size]? = some (.cells #[.string X, .string Y, .string k, .slice none 0 0] 25 (0, 0))) := hide (by rw [hW2]; exact new_block U _)
  replace HR0 := hide (E2.kept (unhide HR0))
  have EW2 := (unhide HEU).trans E2
  have z2 := lt_of_block (unhide HG0)
  have k603 : W2.cell? ⟨P, 603, none⟩ = some (.slice ao un.length ca) := (edG_cells (EW2.kept (unhide HP)) hl).2.2.2.1
  have HE2 := hide EW2
  rw [← hW2]
  clear hW2 E2 EW2 HEU v0 v1 kP HP
  obtain ⟨G, hG⟩ : ∃ G, G = U.heap.size := ⟨_, rfl⟩
  rw [← hG] at HG0 z2 ⊢
  have hWG : W.heap.size < G := by omega
  obtain ⟨m, hm⟩ : ∃ m, m = un.length := ⟨_, rfl⟩
  rw [← hm] at k603 hca hq hn HX
  have HM := hide hm
  clear hG hm zU
  go_wp2
  go_loopw [25] (fun i wr => ∃ (j : Nat) (ka : Option Addr) (kc : Nat), j ≤ m ∧ i = .int .i64 j ∧ Hid (wr.heap[G]? = some (.cells #[.string X, .string Y, .string k, .slice ka j kc] 25 (0, 0))) ∧ Hid (wr.heap[W.heap.size]? = some (.cells #[.string { data := #[] }, .string { data := #[] }, .string { data := #[] }, .slice none 0 0] 25 (0, 0))) ∧ Hid (wr.ownsRow W2.heap.size 49 2 (.slice ka j kc) j (prL (un.take j))) ∧ Hid (Fr (fun q => q = G) W2 wr)) (fun i _ => m - (intOf i).toNat)
  case atStart => exact ⟨0, none, 0, Nat.zero_le _, rfl, HG0, HR0, hide (owns_nil _ _ _ _), hide (Fr.refl _ _)⟩
  case round =>
    obtain ⟨j, ka, kc, hj, rfl, HG, HR, HO, HF⟩ := hrel
    clear HG0 HR0 k603
    have hE := (unhide HF).ext (unhide HE2) (fun q hq => by omega)
    have zr := (unhide HF).size
    have x3 : wr.cell? ⟨G, 3, none⟩ = some (.slice ka j kc) := cells_of (unhide HG) 3 _ rfl
    by_cases hlt : j < m
    · obtain ⟨b, off, hao, hc⟩ := (unhide HX) (by omega)
      subst hao
      have hjq : j < qs.length := by omega
      obtain ⟨q, hqj⟩ : ∃ q, qs[j]? = some q := ⟨qs[j], by simp [hjq]⟩
      obtain ⟨s, hsj⟩ : ∃ s, un[j]? = some s := ⟨un[j]'(by have := unhide HM; omega), by simp⟩
      have g1 : wr.cell? ⟨b, off + j, none⟩ = some (.func (.func 86) #[] #[.pointer (some ⟨q, 0, none⟩)]) := by
        have h := hE.cell (hc j hlt)
        rw [hqj] at h
        exact h
      have HBk := hide (fun w (E : Ext wr w) => back_any q s w (E.kept (hE.kept ((unhide HBX) j q s hqj hsj))))
      have hst : Hid (prL (un.take (j + 1)) = prL (un.take j) ++ [.string s.1, .string s.2]) := hide (by
        rw [← prL_snoc]
        congr 1
        rw [List.take_add_one, hsj]
        rfl)
      have bj : (j : Int) < (m : Int) := by omega
      have x3n : ∀ o, (wr.alloc o).cell? ⟨G, 3, none⟩ = some (.slice ka j kc) := fun o => ((Ext.refl wr).alloc o).cell x3
      have hGl := lt_of_block (unhide HG)
      clear hc hqj hsj hjq
      go_upto_region 6 with fail
      go_region_law (first
        | (go_simp; go_at_call 86; refine ((unhide HBk) _ (by first | exact Ext.refl wr | exact (Ext.refl wr).drew)).mono ?_; rintro e w4 ⟨rfl, F4⟩; have E4 : Ext wr w4 := (by first | exact F4 | exact (Ext.refl wr).drew.trans F4); have z4 := E4.size; have x4 := E4.cell x3; have x4n : ∀ o, (w4.alloc o).cell? ⟨G, 3, none⟩ = some (.slice ka j kc) := fun o => ((Ext.refl w4).alloc o).cell x4; clear F4)
        | (refine step_append_lies _ (by rfl) _ _ _ (by rfl) W2.heap.size 49 ic _ 2 32 Tryz.underlying23 hic hc0 hc1 hc2 rfl (by omega) (.slice ka j kc) j (prL (un.take j)) (by rfl) (by first | exact (E4.owns (unhide HO)).alloc _ | exact ((E4.owns (unhide HO)).alloc _).drew | exact (E4.owns (unhide HO)).drew.alloc _ | exact ((E4.owns (unhide HO)).drew.alloc _).drew)
             ⟨w4.heap.size, 0, none⟩ 1 1 [.string s.1, .string s.2] (by rfl) (by rfl) (World.news_of_block (cs := #[.string s.1, .string s.2]) (t := 49) (fr := (0, 0)) (heap_alloc_new w4 _)) (by simp [Value.oneCell'])
             (by omega) (by unfold maxLen; omega) (by omega) (by simp; omega) (w4.heap.size + 1) (by simp) ?_
           intro g6 c6 w6 o6 G6 hat hlt6
           have X6 := Fr.grown (S := fun q => (Value.slice ka j kc).ownBlock = some q) (w := wr) (Fr.of_ext (by first | exact E4.alloc _ | exact (E4.alloc _).drew | exact E4.drew.alloc _ | exact (E4.drew.alloc _).drew)) G6 (fun q hq => hq)
           rw [← unhide hst] at o6
           have HO6 := hide o6
           have hoff : ∀ x, (Value.slice ka j kc).ownBlock = some x → W2.heap.size ≤ x := fun x hx => ((unhide HO).lt x hx).1
           have hb6 := X6.kept (unhide HG) (fun hq => by have := hoff _ hq; omega)
           have HB6 := hide hb6
           have y3 : w6.cell? ⟨G, 3, none⟩ = some (.slice ka j kc) := cells_of hb6 3 _ rfl
           have f3 : w6.frozen? ⟨G, 3, none⟩ = false := Lib.frozen_of_heap hb6 3
           have HC6 := hide (X6.kept (unhide HR) (fun hq => by have := hoff _ hq; omega))
           have z6 := X6.size
           have HX6 := hide (Fr.offG (unhide HF) X6 hoff)
           clear X6 o6 G6 hb6 hat))
      all_goals
        go_wp2
        go_roundw
        case rel =>
          refine ⟨j + 1, some ⟨g6, 0, none⟩, c6, by omega, by go_num, hide (set_blk2 (unhide HB6) rfl), hide (set_else (unhide HC6) (by omega)), hide (owns_setCell (unhide HO6) (fun e9 => ?_) _), hide ((unhide HX6).setCell rfl _)⟩
          have : W2.heap.size ≤ G := ((unhide HO6).lt _ e9).1
          omega
        case measure => simp [intOf]; omega
    · obtain rfl : j = m := by omega
      have hb9 : ¬ (j : Int) < (j : Int) := by omega
      have HE := hide hE
      have HT : Hid (un.take j = un) := hide (by rw [unhide HM, List.take_length])
      rw [unhide HT] at HO
      clear x3 hE
      go_wp2_with (first
        | (refine wpList_load_blk rfl 25 _ rfl G rfl _ _ _ _ (unhide HG) Tryz.underlying25 rfl infoL ?_)
        | (refine wpList_store_blk rfl 25 _ _ rfl rfl (W.heap.size) rfl _ _ _ rfl (unhide HR) infoL rfl (by simp [Value.oneCell']) ?_; intro Z hy hf9; have HY := hide hy; have FY := hide hf9; clear hy hf9))
      have v0 : Z.cell? ⟨W.heap.size, 0, none⟩ = some (.string X) := cells_of (unhide HY) 0 _ rfl
      have v1 : Z.cell? ⟨W.heap.size, 1, none⟩ = some (.string Y) := cells_of (unhide HY) 1 _ rfl
      have v2 : Z.cell? ⟨W.heap.size, 2, none⟩ = some (.string k) := cells_of (unhide HY) 2 _ rfl
      have v3 : Z.cell? ⟨W.heap.size, 3, none⟩ = some (.slice ka j kc) := cells_of (unhide HY) 3 _ rfl
      have hO : Own2 Z W.heap.size 49 (.slice ka j kc) un.length (fun j => .string (lnT un j)) (fun j => .string (lnH un j)) := by
        have h := unhide HO
        rw [unhide HM] at h
        rw [unhide HM]
        refine ((own2_pairs h).fr (unhide FY) (fun g hg e9 => ?_)).mono (by omega)
        have := (h.lt g hg).1
        omega
      exact bodyPost_ret (v := .agg #[.string X, .string Y, .string k, .slice ka j kc]) (by simp [results, Tryz.results29, go_sem, v0, v1, v2, v3]) rfl ⟨_, rfl, hO, (unhide FY).ext (unhide HE) (fun q hq => by omega)⟩
end Go.Proofs.YtokjpnlmkecleaaGreatDoor
