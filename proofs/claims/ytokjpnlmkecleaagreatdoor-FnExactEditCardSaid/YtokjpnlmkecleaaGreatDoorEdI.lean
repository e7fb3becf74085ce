import Derived.Deep.DeepCutAuto
import Derived.Deep.RegionLaw
import Derived.Deep.CutBlock
import Derived.Deep.RegionHeld3
import Derived.Test.YtokjpnlmkecleaaGreatDoorEdV
import Derived.Test.YtokjpnlmkecleaaGreatDoorEdQ3
import Derived.Test.YtokjpnlmkecleaaGreatDoorItemOk
namespace Go.Proofs.YtokjpnlmkecleaaGreatDoor
open Go.RowKit

theorem Fr.offG {S : Nat → Prop} {G : Nat} {W0 W w' : World} (h : Fr (fun q => q = G) W0 W) (k : Fr S W w') (hS : ∀ x, S x → W0.heap.size ≤ x) : Fr (fun q => q = G) W0 w' := Fr.off h k (fun x hx => .inr (hS x hx))
set_option maxRecDepth 10000 in
set_option maxHeartbeats 8000000 in
theorem line_any (P : Nat) (cl rl rr : List Value) (A B : List (List Int × Int)) (bh : Nat) (hbh : bh = 300 - B.length) (k : ByteArray) (u : Value) (un : List (ByteArray × ByteArray)) (W : World) (hP : W.heap[P]? = some (.cells (edC cl (A.length : Int) (bh : Int) k u) 99 (0, 0))) (hG : GapIn P W cl rl rr A B) (zA : A.length + sumR A A.length ≤ 16777216) (zB : B.length + sumR B B.length ≤ 16777216) (iA : ∀ j, j < A.length → I32s (cR A j)) (iB : ∀ j, j < B.length → I32s (cR B j)) (hU : BackAt W u un) (hn : un.length ≤ 50) :
    Calls Tryz.prog 29 #[.pointer (some ⟨P, 0, none⟩)] W fun e w' => ∃ v, e = .returned (.agg #[.string (toBA (textC A)), .string (toBA (textC B)), .string k, v]) ∧ Own2 w' W.heap.size 49 v un.length (fun j => .string (lnT un j)) (fun j => .string (lnH un j)) ∧ Ext W w' := by
  obtain ⟨ic, hic, hc0, hc1, hc2⟩ := info_parts infoSnap
  have infoS : (Tryz.prog.info? 49).map (·.size) = some 2 := by kernel_rfl
  have infoL : (Tryz.prog.info? 25).map (·.size) = some 4 := by kernel_rfl
  have hl := hG.len
  have hPl : P < W.heap.size := (Array.getElem?_eq_some_iff.1 hP).1
  obtain ⟨qs, hq, ⟨ao, ca, rfl, hca, hxa⟩, hbx⟩ := hU
  have HS := hide (fun w (E : Ext W w) => gapSnap_any P cl rl rr A B bh hbh k _ w (E.kept hP) (hG.fr (Fr.of_ext E)) zA zB iA iB)
  have HP := hide hP
  have HX := hide hxa
  have HBX := hide hbx
  clear hP hG hbh zA zB iA iB hxa hbx
  obtain ⟨X, hX⟩ : ∃ X, X = toBA (textC A) := ⟨_, rfl⟩
  obtain ⟨Y, hY⟩ : ∃ Y, Y = toBA (textC B) := ⟨_, rfl⟩
  rw [← hX, ← hY] at HS ⊢
  clear hX hY
  go_enter Tryz.func29, Tryz.ntmps29
  go_wp2_with fail
  obtain ⟨V, hV⟩ : ∃ V, V = W.alloc (.cells #[.string { data := #[] }, .string { data := #[] }, .string { data := #[] }, .slice none 0 0] 25) := ⟨_, rfl⟩
  rw [← hV]
  have E0 : Ext W V := by rw [hV]; exact (Ext.refl W).alloc _
  have HR0 : Hid (V.heap[W.heap.size]? = some (.cells #[.string { data := #[] }, .string { data := #[] }, .string { data := #[] }, .slice none 0 0] 25 (0, 0))) := hide (by rw [hV]; exact new_block W _)
  have hz0 := lt_of_block (unhide HR0)
  clear hV
  refine ((unhide HS) _ E0).mono ?_
  rintro e w1 ⟨rfl, E1⟩
  clear HS
  have E01 := E0.trans E1
  have hz1 := E1.size
  replace HR0 := hide (E1.kept (unhide HR0))
  have HP1 := hide (E01.kept (unhide HP))
  clear E0 E1
  have HN := hide (heap_alloc_new w1 (.cells #[.string { data := #[] }, .string { data := #[] }] 49))
  go_upto_region 2 with (refine wpList_store_blk rfl 49 _ _ rfl rfl (w1.heap.size) rfl _ _ _ rfl (unhide HN) infoS rfl (by simp [Value.oneCell']) ?_; intro U HB hU; have HB9 := hide HB; have HU9 := hide hU; clear HB hU)
  have v0 : U.cell? ⟨w1.heap.size, 0, none⟩ = some (.string X) := cells_of (unhide HB9) 0 _ rfl
  have v1 : U.cell? ⟨w1.heap.size, 1, none⟩ = some (.string Y) := cells_of (unhide HB9) 1 _ rfl
  have EU : Ext w1 U := (unhide HU9).ext ((Ext.refl w1).alloc _) (fun q hq => by omega)
  have kP : U.cell? ⟨P, 602, none⟩ = some (.string k) := (edG_cells (EU.kept (unhide HP1)) hl).2.2.1
  have EWU := E01.trans EU
  have zU := EU.size
  replace HR0 := hide (EU.kept (unhide HR0))
  have HEU := hide EWU
  clear EU EWU HP1 E01 HB9 HU9 HN
  go_region_held3 (fun W => W.cell? ⟨w1.heap.size, 0, none⟩ = some (.string X) ∧ W.cell? ⟨w1.heap.size, 1, none⟩ = some (.string Y) ∧ W.cell? ⟨P, 602, none⟩ = some (.string k)) (first | exact ⟨v0, v1, kP⟩ | exact ⟨((Ext.refl U).alloc _).drew.cell v0, ((Ext.refl U).alloc _).drew.cell v1, ((Ext.refl U).alloc _).drew.cell kP⟩) (first | fail)
  obtain ⟨W2, hW2⟩ : ∃ W2, W2 = (U.alloc (.cells #[.string X, .string Y, .string k, .slice none 0 0] 25)).drew := ⟨_, rfl⟩
  have E2 : Ext U W2 := by rw [hW2]; exact ((Ext.refl U).alloc _).drew
  have HG0 : Hid (W2.heap[U.heap.size]? = some (.cells #[.string X, .string Y, .string k, .slice none 0 0] 25 (0, 0))) := hide (by rw [hW2]; exact new_block U _)
  replace HR0 := hide (E2.kept (unhide HR0))
  have EW2 := (unhide HEU).trans E2
  have z2 := lt_of_block (unhide HG0)
  have k603 : W2.cell? ⟨P, 603, none⟩ = some (.slice ao un.length ca) := (edG_cells (EW2.kept (unhide HP)) hl).2.2.2.1
  have HE2 := hide EW2
  rw [← hW2]
  clear hW2 E2 EW2 HEU v0 v1 kP HP
  obtain ⟨G, hG⟩ : ∃ G, G = U.heap.size := ⟨_, rfl⟩
  rw [← hG] at HG0 z2 ⊢
  have hWG : W.heap.size < G := by omega
  obtain ⟨m, hm⟩ : ∃ m, m = un.length := ⟨_, rfl⟩
  rw [← hm] at k603 hca hq hn HX
  have HM := hide hm
  clear hG hm zU
  go_wp2
  go_loopw [25] (fun i wr => ∃ (j : Nat) (ka : Option Addr) (kc : Nat), j ≤ m ∧ i = .int .i64 j ∧ Hid (wr.heap[G]? = some (.cells #[.string X, .string Y, .string k, .slice ka j kc] 25 (0, 0))) ∧ Hid (wr.heap[W.heap.size]? = some (.cells #[.string { data := #[] }, .string { data := #[] }, .string { data := #[] }, .slice none 0 0] 25 (0, 0))) ∧ Hid (wr.ownsRow W2.heap.size 49 2 (.slice ka j kc) j (prL (un.take j))) ∧ Hid (Fr (fun q => q = G) W2 wr)) (fun i _ => m - (intOf i).toNat)
  case atStart => exact ⟨0, none, 0, Nat.zero_le _, rfl, HG0, HR0, hide (owns_nil _ _ _ _), hide (Fr.refl _ _)⟩
  case round =>
    obtain ⟨j, ka, kc, hj, rfl, HG, HR, HO, HF⟩ := hrel
    clear HG0 HR0 k603
    have hE := (unhide HF).ext (unhide HE2) (fun q hq => by omega)
    have zr := (unhide HF).size
    have x3 : wr.cell? ⟨G, 3, none⟩ = some (.slice ka j kc) := cells_of (unhide HG) 3 _ rfl
    by_cases hlt : j < m
    · obtain ⟨b, off, hao, hc⟩ := (unhide HX) (by omega)
      subst hao
      have hjq : j < qs.length := by omega
      obtain ⟨q, hqj⟩ : ∃ q, qs[j]? = some q := ⟨qs[j], by simp [hjq]⟩
      obtain ⟨s, hsj⟩ : ∃ s, un[j]? = some s := ⟨un[j]'(by have := unhide HM; omega), by simp⟩
      have g1 : wr.cell? ⟨b, off + j, none⟩ = some (.func (.func 86) #[] #[.pointer (some ⟨q, 0, none⟩)]) := by
        have h := hE.cell (hc j hlt)
        rw [hqj] at h
        exact h
      have HBk := hide (fun w (E : Ext wr w) => back_any q s w (E.kept (hE.kept ((unhide HBX) j q s hqj hsj))))
      have hst : Hid (prL (un.take (j + 1)) = prL (un.take j) ++ [.string s.1, .string s.2]) := hide (by
        rw [← prL_snoc]
        congr 1
        rw [List.take_add_one, hsj]
        rfl)
      have bj : (j : Int) < (m : Int) := by omega
      have x3n : ∀ o, (wr.alloc o).cell? ⟨G, 3, none⟩ = some (.slice ka j kc) := fun o => ((Ext.refl wr).alloc o).cell x3
      have hGl := lt_of_block (unhide HG)
      clear hc hqj hsj hjq
      go_upto_region 6 with fail
      go_region_law (first
        | (go_simp; go_at_call 86; refine ((unhide HBk) _ (by first | exact Ext.refl wr | exact (Ext.refl wr).drew)).mono ?_; rintro e w4 ⟨rfl, F4⟩; have E4 : Ext wr w4 := (by first | exact F4 | exact (Ext.refl wr).drew.trans F4); have z4 := E4.size; have x4 := E4.cell x3; have x4n : ∀ o, (w4.alloc o).cell? ⟨G, 3, none⟩ = some (.slice ka j kc) := fun o => ((Ext.refl w4).alloc o).cell x4; clear F4)
        | (refine step_append_lies _ (by rfl) _ _ _ (by rfl) W2.heap.size 49 ic _ 2 32 Tryz.underlying23 hic hc0 hc1 hc2 rfl (by omega) (.slice ka j kc) j (prL (un.take j)) (by rfl) (by first | exact (E4.owns (unhide HO)).alloc _ | exact ((E4.owns (unhide HO)).alloc _).drew | exact (E4.owns (unhide HO)).drew.alloc _ | exact ((E4.owns (unhide HO)).drew.alloc _).drew)
             ⟨w4.heap.size, 0, none⟩ 1 1 [.string s.1, .string s.2] (by rfl) (by rfl) (World.news_of_block (cs := #[.string s.1, .string s.2]) (t := 49) (fr := (0, 0)) (heap_alloc_new w4 _)) (by simp [Value.oneCell'])
             (by omega) (by unfold maxLen; omega) (by omega) (by simp; omega) (w4.heap.size + 1) (by simp) ?_
           intro g6 c6 w6 o6 G6 hat hlt6
           have X6 := Fr.grown (S := fun q => (Value.slice ka j kc).ownBlock = some q) (w := wr) (Fr.of_ext (by first | exact E4.alloc _ | exact (E4.alloc _).drew | exact E4.drew.alloc _ | exact (E4.drew.alloc _).drew)) G6 (fun q hq => hq)
           rw [← unhide hst] at o6
           have HO6 := hide o6
           have hoff : ∀ x, (Value.slice ka j kc).ownBlock = some x → W2.heap.size ≤ x := fun x hx => ((unhide HO).lt x hx).1
           have hb6 := X6.kept (unhide HG) (fun hq => by have := hoff _ hq; omega)
           have HB6 := hide hb6
           have y3 : w6.cell? ⟨G, 3, none⟩ = some (.slice ka j kc) := cells_of hb6 3 _ rfl
           have f3 : w6.frozen? ⟨G, 3, none⟩ = false := Lib.frozen_of_heap hb6 3
           have HC6 := hide (X6.kept (unhide HR) (fun hq => by have := hoff _ hq; omega))
           have z6 := X6.size
           have HX6 := hide (Fr.offG (unhide HF) X6 hoff)
           clear X6 o6 G6 hb6 hat))
      all_goals
        go_wp2
        go_roundw
        case rel =>
          refine ⟨j + 1, some ⟨g6, 0, none⟩, c6, by omega, by go_num, hide (set_blk2 (unhide HB6) rfl), hide (set_else (unhide HC6) (by omega)), hide (owns_setCell (unhide HO6) (fun e9 => ?_) _), hide ((unhide HX6).setCell rfl _)⟩
          have : W2.heap.size ≤ G := ((unhide HO6).lt _ e9).1
          omega
        case measure => simp [intOf]; omega
    · obtain rfl : j = m := by omega
      have hb9 : ¬ (j : Int) < (j : Int) := by omega
      have HE := hide hE
      have HT : Hid (un.take j = un) := hide (by rw [unhide HM, List.take_length])
      rw [unhide HT] at HO
      clear x3 hE
      go_wp2_with (first
        | (refine wpList_load_blk rfl 25 _ rfl G rfl _ _ _ _ (unhide HG) Tryz.underlying25 rfl infoL ?_)
        | (refine wpList_store_blk rfl 25 _ _ rfl rfl (W.heap.size) rfl _ _ _ rfl (unhide HR) infoL rfl (by simp [Value.oneCell']) ?_; intro Z hy hf9; have HY := hide hy; have FY := hide hf9; clear hy hf9))
      have v0 : Z.cell? ⟨W.heap.size, 0, none⟩ = some (.string X) := cells_of (unhide HY) 0 _ rfl
      have v1 : Z.cell? ⟨W.heap.size, 1, none⟩ = some (.string Y) := cells_of (unhide HY) 1 _ rfl
      have v2 : Z.cell? ⟨W.heap.size, 2, none⟩ = some (.string k) := cells_of (unhide HY) 2 _ rfl
      have v3 : Z.cell? ⟨W.heap.size, 3, none⟩ = some (.slice ka j kc) := cells_of (unhide HY) 3 _ rfl
      have hO : Own2 Z W.heap.size 49 (.slice ka j kc) un.length (fun j => .string (lnT un j)) (fun j => .string (lnH un j)) := by
        have h := unhide HO
        rw [unhide HM] at h
        rw [unhide HM]
        refine ((own2_pairs h).fr (unhide FY) (fun g hg e9 => ?_)).mono (by omega)
        have := (h.lt g hg).1
        omega
      exact bodyPost_ret (v := .agg #[.string X, .string Y, .string k, .slice ka j kc]) (by simp [results, Tryz.results29, go_sem, v0, v1, v2, v3]) rfl ⟨_, rfl, hO, (unhide FY).ext (unhide HE) (fun q hq => by omega)⟩
end Go.Proofs.YtokjpnlmkecleaaGreatDoor

namespace Go.Proofs.YtokjpnlmkecleaaGreatDoor
open Go.RowKit

theorem mem_unL {tx hf : Nat → ByteArray} {n : Nat} {s : ByteArray × ByteArray} (h : s ∈ unL tx hf n) : ∃ j, j < n ∧ s = (tx j, hf j) := by
  unfold unL at h
  obtain ⟨j, hj, e⟩ := List.mem_map.1 h
  exact ⟨j, List.mem_range.1 hj, e.symm⟩
theorem lnOk_of {a b c : ByteArray} {n : Nat} {tx hf : Nat → ByteArray} (h : LineP a b c n tx hf) (ha : a.size ≤ 1048576) (hb : b.size ≤ 1048576) (hc : c.size ≤ 1048576) (hx : ∀ j, j < n → (tx j).size ≤ 1048576 ∧ (hf j).size ≤ 1048576) : LnOk a b c (unL tx hf n) := by
  obtain ⟨h1, ⟨h2, h3, h4⟩, ⟨h5, h6⟩, h7⟩ := h
  refine ⟨h2, h3, h5, h4, h6, by rw [unL_len]; exact h1, fun s hs => ?_, ha, hb, hc, fun s hs => ?_⟩
  · obtain ⟨j, hj, rfl⟩ := mem_unL hs
    exact h7 j hj
  · obtain ⟨j, hj, rfl⟩ := mem_unL hs
    exact hx j hj
set_option maxRecDepth 10000 in
set_option maxHeartbeats 4000000 in
theorem implEdit_no (a b c : ByteArray) (v : Value) (n : Nat) (tx hf : Nat → ByteArray) (kd : Int) (rv : Value) (w : World) (hv : Row2At w v n (fun j => .string (tx j)) (fun j => .string (hf j))) (ha : a.size ≤ 1048576) (hb : b.size ≤ 1048576) (hc : c.size ≤ 1048576) (hn : n ≤ 1048576) (hx : ∀ j, j < n → (tx j).size ≤ 1048576 ∧ (hf j).size ≤ 1048576) (hT : Tabs3 w) (hP : ¬ LineP a b c n tx hf) :
    Calls Tryz.prog 8 #[.agg #[.string a, .string b, .string c, v], .agg #[.int .i64 kd, rv]] w fun e w' => LnO w' w.heap.size ⟨a, b, c, unL tx hf n, 0⟩ e ∧ Ext w w' := by
  have infoL : (Tryz.prog.info? 25).map (·.size) = some 4 := by kernel_rfl
  obtain ⟨ao, ca, rfl, _, _⟩ := id hv
  have H1 := hide (fun W (E : Ext w W) => implLineOk_any a b c (.slice ao n ca) n tx hf W (hv.ext E) ha hb hc hn hx (hT.ext E) false (by simp [hP]))
  have H3 := hide (fun W (E : Ext w W) => copyLine_any a b c (.slice ao n ca) n tx hf W (hv.ext E) hn)
  clear hP hv hx hT
  obtain ⟨V, hV⟩ : ∃ V, V = ((w.alloc (.cells #[.string a, .string b, .string c, .slice ao n ca] 25)).alloc (.cells #[.int .i64 kd, rv] 28)).alloc (.cells #[.string { data := #[] }, .string { data := #[] }, .string { data := #[] }, .slice none 0 0] 25) := ⟨_, rfl⟩
  have E0 : Ext w V := by rw [hV]; exact (((Ext.refl w).alloc _).alloc _).alloc _
  have HB0 : Hid (V.heap[w.heap.size]? = some (.cells #[.string a, .string b, .string c, .slice ao n ca] 25 (0, 0))) := hide (by rw [hV]; exact (((Ext.refl _).alloc _).alloc _).kept (new_block w _))
  have HBK : Hid (V.heap[w.heap.size + 1]? = some (.cells #[.int .i64 kd, rv] 28 (0, 0))) := hide (by rw [hV]; have h := new_block (w.alloc (.cells #[.string a, .string b, .string c, .slice ao n ca] 25)) (.cells #[.int .i64 kd, rv] 28); rw [show (w.alloc (.cells #[.string a, .string b, .string c, .slice ao n ca] 25)).heap.size = w.heap.size + 1 by simp] at h; exact ((Ext.refl _).alloc _).kept h)
  have HB1 : Hid (V.heap[w.heap.size + 2]? = some (.cells #[.string { data := #[] }, .string { data := #[] }, .string { data := #[] }, .slice none 0 0] 25 (0, 0))) := hide (by rw [hV]; have h := new_block ((w.alloc (.cells #[.string a, .string b, .string c, .slice ao n ca] 25)).alloc (.cells #[.int .i64 kd, rv] 28)) (.cells #[.string { data := #[] }, .string { data := #[] }, .string { data := #[] }, .slice none 0 0] 25); rw [show ((w.alloc (.cells #[.string a, .string b, .string c, .slice ao n ca] 25)).alloc (.cells #[.int .i64 kd, rv] 28)).heap.size = w.heap.size + 2 by simp] at h; exact h)
  have sz0 : w.heap.size + 2 < V.heap.size := lt_of_block (unhide HB1)
  have HW := hide hV
  clear hV
  go_enter Tryz.func8, Tryz.ntmps8
  go_wp2_with fail
  rw [← unhide HW]
  clear HW
  refine ((unhide H1) _ E0).mono ?_
  rintro e w1 ⟨rfl, E1⟩
  have E01 := E0.trans E1
  replace HB0 := hide (E1.kept (unhide HB0))
  replace HBK := hide (E1.kept (unhide HBK))
  replace HB1 := hide (E1.kept (unhide HB1))
  have z1 := E1.size
  clear E0 E1 H1
  have c0 : w1.cell? ⟨w.heap.size, 0, none⟩ = some (.string a) := cells_of (unhide HB0) 0 _ rfl
  have c1 : w1.cell? ⟨w.heap.size, 1, none⟩ = some (.string b) := cells_of (unhide HB0) 1 _ rfl
  have c2 : w1.cell? ⟨w.heap.size, 2, none⟩ = some (.string c) := cells_of (unhide HB0) 2 _ rfl
  have c3 : w1.cell? ⟨w.heap.size, 3, none⟩ = some (.slice ao n ca) := cells_of (unhide HB0) 3 _ rfl
  go_wp2_with fail
  refine ((unhide H3) _ E01).mono ?_
  rintro e w2 ⟨ua, uc, rfl, HO, E2⟩
  replace HB1 := hide (E2.kept (unhide HB1))
  have HE := hide (E01.trans E2)
  clear E2 c0 c1 c2 c3 H3 HBK HB0 E01
  go_wp2_with (first
    | (refine wpList_store_blk rfl 25 _ _ rfl rfl (w.heap.size + 2) rfl _ _ _ rfl (unhide HB1) infoL rfl (by simp [Value.oneCell']) ?_; intro Z hy hf9; have HY := hide hy; have FY := hide hf9; clear hy hf9))
  have v0 : Z.cell? ⟨w.heap.size + 2, 0, none⟩ = some (.string a) := cells_of (unhide HY) 0 _ rfl
  have v1 : Z.cell? ⟨w.heap.size + 2, 1, none⟩ = some (.string b) := cells_of (unhide HY) 1 _ rfl
  have v2 : Z.cell? ⟨w.heap.size + 2, 2, none⟩ = some (.string c) := cells_of (unhide HY) 2 _ rfl
  have v3 : Z.cell? ⟨w.heap.size + 2, 3, none⟩ = some (.slice ua n uc) := cells_of (unhide HY) 3 _ rfl
  refine bodyPost_ret (v := .tuple #[.agg #[.string a, .string b, .string c, .slice ua n uc], .int .i64 0]) (by simp [results, Tryz.results8, go_sem, v0, v1, v2, v3]) rfl ⟨⟨_, rfl, ?_⟩, (unhide FY).ext (unhide HE) (fun q hq => by omega)⟩
  have hO := ((unhide HO).fr (unhide FY) (fun g hg e9 => by have := ((unhide HO).lt g hg).1; omega)).mono (base' := w.heap.size) (by omega)
  show Own2 Z w.heap.size 49 (.slice ua n uc) (unL tx hf n).length _ _
  rw [unL_len]
  exact hO.congr (fun j hj => ⟨by rw [lnT_un tx hf hj], by rw [lnH_un tx hf hj]⟩)
set_option maxRecDepth 10000 in
set_option maxHeartbeats 4000000 in
theorem implEdit_yes (a b c : ByteArray) (v : Value) (n : Nat) (tx hf : Nat → ByteArray) (kd : Int) (rv : Value) (rs : List Int) (w : World) (hv : Row2At w v n (fun j => .string (tx j)) (fun j => .string (hf j))) (ha : a.size ≤ 1048576) (hb : b.size ≤ 1048576) (hc : c.size ≤ 1048576) (hn : n ≤ 1048576) (hx : ∀ j, j < n → (tx j).size ≤ 1048576 ∧ (hf j).size ≤ 1048576) (hT : Tabs3 w) (hr : IntsAt w .i32 rv rs) (iR : I32s rs) (zR : rs.length ≤ 1048576) (hP : LineP a b c n tx hf) :
    Calls Tryz.prog 8 #[.agg #[.string a, .string b, .string c, v], .agg #[.int .i64 kd, rv]] w fun e w' => LnO w' w.heap.size (edF a b c (unL tx hf n) kd rs) e ∧ Ext w w' := by
  have infoL : (Tryz.prog.info? 25).map (·.size) = some 4 := by kernel_rfl
  have infoK : (Tryz.prog.info? 28).map (·.size) = some 2 := by kernel_rfl
  have hln := lnOk_of hP ha hb hc hx
  have hn50 := hP.1
  have la := cut_len (baL a)
  have lb := cut_len (baL b)
  have nab := hln.nab
  obtain ⟨ao, ca, rfl, _, _⟩ := id hv
  have H1 := hide (fun W (E : Ext w W) => implLineOk_any a b c (.slice ao n ca) n tx hf W (hv.ext E) ha hb hc hn hx (hT.ext E) true (by simp [hP]))
  have H3 := hide (fun W (E : Ext w W) => newEditor_any (baL a) (baL b) (baL_bytes a) (baL_bytes b) (by rw [baL_len]; omega) (by rw [baL_len]; omega) (by omega) c (.slice ao n ca) n tx hf W (hv.ext E) hn50 (fun w' E' => (hT.ext (E.trans E')).1))
  rw [toBA_baL, toBA_baL] at H3
  obtain ⟨o, ho⟩ : ∃ o, o = edF a b c (unL tx hf n) kd rs := ⟨_, rfl⟩
  have H4 := hide (fun (P base : Nat) (cl rl rr : List Value) (u : Value) (qs : List Nat) (W : World) (E : Ext w W) (hPw : w.heap.size ≤ P) (hbw : w.heap.size ≤ base) (e0 : Ed0 P base W c u qs (unL tx hf n) (cutC (baL a)) (cutC (baL b)) cl rl rr) =>
    press_all hln e0 kd rv rs (hr.ext E) iR zR (fun W' f => (hT.ext (f.ext E (fun q hq => by
      rcases hq with hq | hq <;> omega))).1))
  rw [← ho] at H4 ⊢
  have CA := hide (show CkC (cutC (baL a)) from ⟨cut_fit _ (by rw [baL_len]; omega), cut_i32 _⟩)
  have CB := hide (show CkC (cutC (baL b)) from ⟨cut_fit _ (by rw [baL_len]; omega), cut_i32 _⟩)
  have HUN := hide (show (unL tx hf n).length ≤ 50 by rw [unL_len]; exact hn50)
  clear hP hv hx hT hr iR zR hln ho la lb nab hn50
  obtain ⟨V, hV⟩ : ∃ V, V = ((w.alloc (.cells #[.string a, .string b, .string c, .slice ao n ca] 25)).alloc (.cells #[.int .i64 kd, rv] 28)).alloc (.cells #[.string { data := #[] }, .string { data := #[] }, .string { data := #[] }, .slice none 0 0] 25) := ⟨_, rfl⟩
  have E0 : Ext w V := by rw [hV]; exact (((Ext.refl w).alloc _).alloc _).alloc _
  have HB0 : Hid (V.heap[w.heap.size]? = some (.cells #[.string a, .string b, .string c, .slice ao n ca] 25 (0, 0))) := hide (by rw [hV]; exact (((Ext.refl _).alloc _).alloc _).kept (new_block w _))
  have HBK : Hid (V.heap[w.heap.size + 1]? = some (.cells #[.int .i64 kd, rv] 28 (0, 0))) := hide (by rw [hV]; have h := new_block (w.alloc (.cells #[.string a, .string b, .string c, .slice ao n ca] 25)) (.cells #[.int .i64 kd, rv] 28); rw [show (w.alloc (.cells #[.string a, .string b, .string c, .slice ao n ca] 25)).heap.size = w.heap.size + 1 by simp] at h; exact ((Ext.refl _).alloc _).kept h)
  have HB1 : Hid (V.heap[w.heap.size + 2]? = some (.cells #[.string { data := #[] }, .string { data := #[] }, .string { data := #[] }, .slice none 0 0] 25 (0, 0))) := hide (by rw [hV]; have h := new_block ((w.alloc (.cells #[.string a, .string b, .string c, .slice ao n ca] 25)).alloc (.cells #[.int .i64 kd, rv] 28)) (.cells #[.string { data := #[] }, .string { data := #[] }, .string { data := #[] }, .slice none 0 0] 25); rw [show ((w.alloc (.cells #[.string a, .string b, .string c, .slice ao n ca] 25)).alloc (.cells #[.int .i64 kd, rv] 28)).heap.size = w.heap.size + 2 by simp] at h; exact h)
  have sz0 : w.heap.size + 2 < V.heap.size := lt_of_block (unhide HB1)
  have HW := hide hV
  clear hV
  go_enter Tryz.func8, Tryz.ntmps8
  go_wp2_with fail
  rw [← unhide HW]
  clear HW
  refine ((unhide H1) _ E0).mono ?_
  rintro e w1 ⟨rfl, E1⟩
  have E01 := E0.trans E1
  replace HB0 := hide (E1.kept (unhide HB0))
  replace HBK := hide (E1.kept (unhide HBK))
  replace HB1 := hide (E1.kept (unhide HB1))
  have z1 := E1.size
  clear E0 E1 H1
  have c0 : w1.cell? ⟨w.heap.size, 0, none⟩ = some (.string a) := cells_of (unhide HB0) 0 _ rfl
  have c1 : w1.cell? ⟨w.heap.size, 1, none⟩ = some (.string b) := cells_of (unhide HB0) 1 _ rfl
  have c2 : w1.cell? ⟨w.heap.size, 2, none⟩ = some (.string c) := cells_of (unhide HB0) 2 _ rfl
  have c3 : w1.cell? ⟨w.heap.size, 3, none⟩ = some (.slice ao n ca) := cells_of (unhide HB0) 3 _ rfl
  go_wp2_with fail
  refine ((unhide H3) _ E01).mono ?_
  rintro e w4 ⟨P, cl, rl, rr, u, qs, base, rfl, p4, g4, b4, hP4, hb4, hbs, E4⟩
  have H4' := hide ((unhide H4) P base cl rl rr u qs w4 (E01.trans E4) (by omega) (by omega) ⟨p4, g4, b4, hbs, unhide CA, unhide CB, unhide HUN⟩)
  replace HBK := hide (E4.kept (unhide HBK))
  replace HB1 := hide (E4.kept (unhide HB1))
  have HE4 := hide (E01.trans E4)
  have hw1 : w.heap.size + 2 < w1.heap.size := by omega
  clear H3 H4 p4 g4 b4 E4 E01 c0 c1 c2 c3 HB0 CA CB HUN
  go_wp2_with (first
    | (refine wpList_load_blk rfl 28 _ rfl (w.heap.size + 1) rfl _ _ _ _ (unhide HBK) Tryz.underlying28 rfl infoK ?_))
  refine (unhide H4').mono ?_
  rintro e w5 ⟨d, rfl, A', B', rfl, ta, tb, ca5, cb5, h50, ⟨cl5, rl5, rr5, u5, p5, g5, b5⟩, F5⟩
  have H5 := hide (line_any P cl5 rl5 rr5 A' B' _ rfl o.c u5 o.un w5 p5 g5 ca5.1 cb5.1 ca5.2 cb5.2 b5 h50)
  rw [ta, tb] at H5
  replace HB1 := hide (F5.kept (unhide HB1) (fun e9 => by rcases e9 with e9 | e9 <;> omega))
  have hz5 : w.heap.size + 2 < w5.heap.size := lt_of_block (unhide HB1)
  have HE5 := hide (F5.ext (unhide HE4) (fun q hq => by rcases hq with hq | hq <;> omega))
  clear H4' p5 g5 b5 F5 HE4 ca5 cb5 h50 ta tb HBK
  go_wp2_with fail
  refine (unhide H5).mono ?_
  rintro e w6 ⟨v6, rfl, hO, E6⟩
  obtain ⟨ua, uc, rfl⟩ : ∃ ua uc, v6 = .slice ua o.un.length uc := by
    obtain ⟨g1, g2, e1, _⟩ := hO.reads
    exact ⟨_, _, e1⟩
  have HO := hide hO
  replace HB1 := hide (E6.kept (unhide HB1))
  have HE := hide ((unhide HE5).trans E6)
  clear hO E6 H5 HE5
  go_wp2_with (first
    | (refine wpList_store_blk rfl 25 _ _ rfl rfl (w.heap.size + 2) rfl _ _ _ rfl (unhide HB1) infoL rfl (by simp [Value.oneCell']) ?_; intro Z hy hf9; have HY := hide hy; have FY := hide hf9; clear hy hf9))
  have v0 : Z.cell? ⟨w.heap.size + 2, 0, none⟩ = some (.string o.a) := cells_of (unhide HY) 0 _ rfl
  have v1 : Z.cell? ⟨w.heap.size + 2, 1, none⟩ = some (.string o.b) := cells_of (unhide HY) 1 _ rfl
  have v2 : Z.cell? ⟨w.heap.size + 2, 2, none⟩ = some (.string o.c) := cells_of (unhide HY) 2 _ rfl
  have v3 : Z.cell? ⟨w.heap.size + 2, 3, none⟩ = some (.slice ua o.un.length uc) := cells_of (unhide HY) 3 _ rfl
  exact bodyPost_ret (v := .tuple #[.agg #[.string o.a, .string o.b, .string o.c, .slice ua o.un.length uc], .int .i64 o.d]) (by simp [results, Tryz.results8, go_sem, v0, v1, v2, v3]) rfl ⟨⟨_, rfl, ((unhide HO).fr (unhide FY) (fun g hg e9 => by have := ((unhide HO).lt g hg).1; omega)).mono (by omega)⟩, (unhide FY).ext (unhide HE) (fun q hq => by omega)⟩
end Go.Proofs.YtokjpnlmkecleaaGreatDoor
