import Derived.Deep.DeepCutAuto
import Derived.Deep.RegionLaw
import Derived.Deep.CutBlock
import Derived.Test.YtbieoijeilhadaaDoorGap
namespace Go.Proofs.YtbieoijeilhadaaDoor
open Go.RowKit
theorem own2_pr {w : World} {base : Nat} {T : TypeId} {v : Value} {un : List (ByteArray × ByteArray)} (h : w.ownsRow base T 2 v un.length (prL un)) : Own2 w base T v un.length (fun j => .string (lnT un j)) (fun j => .string (lnH un j)) := own2_pairs h
theorem src_drop {w : World} {base : Nat} {T : TypeId} {un : List (ByteArray × ByteArray)} {g cap : Nat} (h : w.ownsRow base T 2 (.slice (some ⟨g, 0, none⟩) un.length cap) un.length (prL un)) (h0 : 0 < un.length) (hc : un.length ≤ cap) : Src w 2 (.slice (some ⟨g, 2, none⟩) (un.length - 1) (cap - 1)) (un.length - 1) (prL (un.drop 1)) := by
  have hr : Row2At w (.slice (some ⟨g, 2, none⟩) (un.length - 1) (cap - 1)) (un.length - 1) (fun j => .string (lnT (un.drop 1) j)) (fun j => .string (lnH (un.drop 1) j)) := by
    refine ⟨_, cap - 1, rfl, by omega, fun _ => ⟨g, 2, rfl, fun j hj => ?_⟩⟩
    obtain ⟨p1, p2⟩ := prL_at un (j + 1) (by omega)
    have c1 := h.cellAt ((j + 1) * 2) (by omega)
    have c2 := h.cellAt ((j + 1) * 2 + 1) (by omega)
    rw [p1] at c1
    rw [p2] at c2
    rw [show 2 + j * 2 = (j + 1) * 2 by omega, c1, c2]
    exact ⟨by rw [← lnT_drop], by rw [← lnH_drop]⟩
  have hs := Src.snaps hr
  have e : prL (un.drop 1) = pairsL (fun j => .string (lnT (un.drop 1) j)) (fun j => .string (lnH (un.drop 1) j)) (un.length - 1) := by unfold prL; rw [List.length_drop]
  rw [e]
  exact hs
set_option maxRecDepth 10000 in
set_option maxHeartbeats 4000000 in
theorem l4Set_any (a b c l r : ByteArray) (v : Value) (n : Nat) (tx hf : Nat → ByteArray) (w : World) (hv : Row2At w v n (fun j => .string (tx j)) (fun j => .string (hf j))) (hn : n ≤ 50) :
    Calls Tryd.prog 112 #[.agg #[.string a, .string b, .string c, v], .string l, .string r] w fun e w' => ∃ v', e = .returned (.agg #[.string l, .string r, .string c, v']) ∧ Own2 w' w.heap.size 140 v' (undoN (unL tx hf n) (a, b)).length (fun j => .string (lnT (undoN (unL tx hf n) (a, b)) j)) (fun j => .string (lnH (undoN (unL tx hf n) (a, b)) j)) ∧ Ext w w' := by
  obtain ⟨ic, hic, hc0, hc1, hc2⟩ := info_parts infoSnap
  have infoL : (Tryd.prog.info? 46).map (·.size) = some 4 := by kernel_rfl
  have HC := hide (fun W (E : Ext w W) => l4Copy_any a b c v n tx hf W (hv.ext E) (by omega))
  obtain ⟨ao, ca, rfl, _, _⟩ := hv
  obtain ⟨V, hV⟩ : ∃ V, V = (w.alloc (.cells #[.string a, .string b, .string c, .slice ao n ca] 46)).alloc (.cells #[.string { data := #[] }, .string { data := #[] }, .string { data := #[] }, .slice none 0 0] 46) := ⟨_, rfl⟩
  have E0 : Ext w V := by rw [hV]; exact ((Ext.refl w).alloc _).alloc _
  have sz0 : V.heap.size = w.heap.size + 1 + 1 := by rw [hV]; simp
  have HB0 : Hid (V.heap[w.heap.size]? = some (.cells #[.string a, .string b, .string c, .slice ao n ca] 46 (0, 0))) := hide (by rw [hV]; exact ((Ext.refl _).alloc _).kept (new_block w _))
  have HB1 : Hid (V.heap[w.heap.size + 1]? = some (.cells #[.string { data := #[] }, .string { data := #[] }, .string { data := #[] }, .slice none 0 0] 46 (0, 0))) := hide (by rw [hV]; have h := new_block (w.alloc (.cells #[.string a, .string b, .string c, .slice ao n ca] 46)) (.cells #[.string { data := #[] }, .string { data := #[] }, .string { data := #[] }, .slice none 0 0] 46); rw [show (w.alloc (.cells #[.string a, .string b, .string c, .slice ao n ca] 46)).heap.size = w.heap.size + 1 by simp] at h; exact h)
  have HV := hide hV
  obtain ⟨un, hun⟩ : ∃ un, un = unL tx hf n := ⟨_, rfl⟩
  have hul : un.length = n := unL_eq tx hf n un hun
  rw [← hun]
  have HUN := hide hun
  obtain ⟨uz, huz⟩ : ∃ uz, uz = undoN un (a, b) := ⟨_, rfl⟩
  rw [← huz]
  have HUZ := hide huz
  clear hV hun huz
  go_enter Tryd.func112, Tryd.ntmps112
  go_wp2_with fail
  rw [← unhide HV]
  clear HV
  refine ((unhide HC) _ E0).mono ?_
  rintro e w1 ⟨ua, uc, rfl, HO1, E1⟩
  clear HC
  have z1 := E1.size
  replace HB0 := hide (E1.kept (unhide HB0))
  replace HB1 := hide (E1.kept (unhide HB1))
  have HE1 := hide (E0.trans E1)
  clear E0 E1
  have HO := hide (own2_list (unhide HO1))
  clear HO1
  have HN := hide (heap_alloc_new w1 (.cells #[.string { data := #[] }, .string { data := #[] }, .string { data := #[] }, .slice none 0 0] 46))
  go_wp2_with (first
    | (refine wpList_store_blk rfl 46 _ _ rfl rfl (w1.heap.size) rfl _ _ _ rfl (unhide HN) infoL rfl (by simp [Value.oneCell']) ?_; intro U HB hU; have HB9 := hide HB; have EU := hU.ext ((Ext.refl w1).alloc _) (fun q hq => by omega); have HEU := hide EU; have u3 : U.cell? ⟨w1.heap.size, 3, none⟩ = some (.slice ua n uc) := cells_of HB 3 _ rfl; have u0 : U.cell? ⟨w.heap.size, 0, none⟩ = some (.string a) := cells_of (EU.kept (unhide HB0)) 0 _ rfl; have u1 : U.cell? ⟨w.heap.size, 1, none⟩ = some (.string b) := cells_of (EU.kept (unhide HB0)) 1 _ rfl; clear EU HB hU)
    | (at_builtin; refine StopQ.intro ?_))
  show wpList _ _ _ _ _ _
  have HSR := hide (Src.made (w := U) (size := 2) [.string a, .string b] 1 140 rfl (by simp [Value.oneCell']))
  have HOU := hide (((unhide HEU).owns (unhide HO)).alloc (.cells #[.string a, .string b] 140))
  have zU := (unhide HEU).size
  have hgl := lt_of_block (unhide HB9)
  have hog : ∀ x, (Value.slice ua n uc).ownBlock = some x → V.heap.size ≤ x ∧ x < w1.heap.size := (unhide HO).lt
  rw [← prL_un, ← unhide HUN] at HOU
  clear HUN HO u3
  refine wpList_app rfl _ _ 44 rfl V.heap.size 140 ic (.agg #[.string noT, .string noT]) 2 32 Tryd.underlying44 hic hc0 hc1 hc2 rfl (by decide) _ n (prL un) rfl (unhide HOU) _ 1 [.string a, .string b] rfl (unhide HSR) (by unfold maxLen; omega) (by omega) (by simp; omega) ?_
  intro v3 w3 o3 G3 _
  obtain ⟨a3, c3, rfl⟩ := owns_ln o3
  have X3 := Fr.grown (S := fun q => (Value.slice ua n uc).ownBlock = some q) (Fr.of_ext ((Ext.refl U).alloc (.cells #[.string a, .string b] 140))) G3 (fun q hq => hq)
  have E3 : Ext w w3 := X3.ext ((unhide HE1).trans (unhide HEU)) (fun q hq => by have := hog q hq; omega)
  have HB := hide (X3.kept (unhide HB9) (fun e => by have := hog _ e; omega))
  replace HB1 := hide (X3.kept ((unhide HEU).kept (unhide HB1)) (fun e => by have := hog _ e; omega))
  have z3 := X3.size
  have g3 : w3.cell? ⟨w1.heap.size, 3, none⟩ = some (.slice ua n uc) := cells_of (unhide HB) 3 _ rfl
  have f3 : ∀ i, w3.frozen? ⟨w1.heap.size, i, none⟩ = false := fun i => Lib.frozen_of_heap (unhide HB) i
  rw [← prL_snoc un (a, b)] at o3
  have h1 : (un ++ [(a, b)]).length = n + 1 := by simp [hul]
  have HO3 := hide o3
  have HE3 := hide E3
  obtain ⟨w4, hw4⟩ : ∃ w4, w4 = w3.setCell ⟨w1.heap.size, 3, none⟩ (.slice a3 (n + 1) c3) := ⟨_, rfl⟩
  have HB4 : Hid (w4.heap[w1.heap.size]? = some (.cells #[.string a, .string b, .string c, .slice a3 (n + 1) c3] 46 (0, 0))) := hide (by rw [hw4]; exact set_blk2 (unhide HB) rfl)
  have HB14 : Hid (w4.heap[w.heap.size + 1]? = some (.cells #[.string { data := #[] }, .string { data := #[] }, .string { data := #[] }, .slice none 0 0] 46 (0, 0))) := hide (by rw [hw4]; exact set_else (unhide HB1) (by omega))
  have F4 : Fr (fun q => q = w1.heap.size) w3 w4 := by rw [hw4]; exact Fr.setCell (S := fun q => q = w1.heap.size) (Fr.refl _ w3) (a := ⟨w1.heap.size, 3, none⟩) rfl _
  have HO4 : Hid (w4.ownsRow V.heap.size 140 2 (.slice a3 (n + 1) c3) (n + 1) (prL (un ++ [(a, b)]))) := hide (by
    refine F4.owns o3 (fun g hg e9 => ?_)
    subst e9
    obtain ⟨c9, k9⟩ := owns_kind o3 hg
    rw [unhide HB] at k9
    injection k9 with k9
    injection k9 with _ k9
    exact absurd k9 (by decide))
  have HE4 := hide (F4.ext E3 (fun q hq => by omega))
  have z4 := F4.size
  have HW4 := hide hw4
  have H1 := hide h1
  have HUL := hide hul
  have hVz : w.heap.size + 1 < V.heap.size := by omega
  clear o3 G3 X3 E3 HOU HSR HEU HE1 HB9 u0 u1 HB0 hog F4 hw4 HO3 HE3 h1 hul sz0
  go_upto_region 3 with fail
  rw [← unhide HW4]
  have y3 : w4.cell? ⟨w1.heap.size, 3, none⟩ = some (.slice a3 (n + 1) c3) := cells_of (unhide HB4) 3 _ rfl
  have y0 : w4.cell? ⟨w1.heap.size, 0, none⟩ = some (.string a) := cells_of (unhide HB4) 0 _ rfl
  have y1 : w4.cell? ⟨w1.heap.size, 1, none⟩ = some (.string b) := cells_of (unhide HB4) 1 _ rfl
  have f4 : ∀ i, w4.frozen? ⟨w1.heap.size, i, none⟩ = false := fun i => Lib.frozen_of_heap (unhide HB4) i
  clear HW4 HB HB1 g3 f3
  by_cases h50 : n = 50
  · have HU := hide (show uz = (un ++ [(a, b)]).drop 1 by rw [unhide HUZ]; unfold undoN; rw [if_pos (by have := unhide HUL; omega)])
    subst h50
    rcases (unhide HO4).2 with ⟨e0, _⟩ | ⟨g, cap, cur, e0, hgb, hgh, hcap, _⟩
    · simp at e0
    obtain ⟨rfl, _, rfl⟩ := Value.slice.inj e0
    have hcap' : 51 ≤ c3 := hcap
    have k1 : ¬ c3 = 1 := by omega
    have k2 : ¬ c3 = 0 := by omega
    have k3 : (1 : Int) ≤ (c3 : Int) := by omega
    have y3n : ∀ o, (w4.alloc o).cell? ⟨w1.heap.size, 3, none⟩ = some (.slice (some ⟨g, 0, none⟩) 51 c3) := fun o => ((Ext.refl w4).alloc o).cell y3
    have HOD := hide (unhide HO4)
    rw [← unhide H1] at HOD
    have HSR := hide ((src_drop (unhide HOD) (by have := unhide H1; omega) (by have := unhide H1; omega)).ext ((Ext.refl w4).alloc (.cells #[] 140)))
    rw [unhide H1] at HSR
    have HOE := hide (owns_empty w4 140 2)
    clear e0 hcap hgh HOD
    go_wp2_with (at_builtin; refine StopQ.intro ?_)
    show wpList _ _ _ _ _ _
    refine wpList_app rfl _ _ 44 rfl w4.heap.size 140 ic (.agg #[.string noT, .string noT]) 2 32 Tryd.underlying44 hic hc0 hc1 hc2 rfl (by decide) _ 0 [] rfl (unhide HOE) _ 50 (prL ((un ++ [(a, b)]).drop 1)) rfl (unhide HSR) (by unfold maxLen; omega) (by omega) (by simp) ?_
    intro v5 w5 o5 G5 _
    obtain ⟨a5, c5, rfl⟩ := owns_ln o5
    rw [Nat.zero_add, List.nil_append] at o5
    have X5 := Fr.grown (S := fun q => q = w4.heap.size) (Fr.of_ext ((Ext.refl w4).alloc (.cells #[] 140))) G5 (fun q hq => by cases hq; rfl)
    have hgl4 := lt_of_block (unhide HB4)
    have hgl14 := lt_of_block (unhide HB14)
    have HE5 := hide (X5.ext (unhide HE4) (fun q hq => by omega))
    have HB5 := hide (X5.kept (unhide HB4) (by omega))
    have HB15 := hide (X5.kept (unhide HB14) (by omega))
    have HO5 := hide o5
    have m3 : w5.cell? ⟨w1.heap.size, 3, none⟩ = some (.slice (some ⟨g, 0, none⟩) 51 c3) := cells_of (unhide HB5) 3 _ rfl
    have m0 : w5.cell? ⟨w1.heap.size, 0, none⟩ = some (.string a) := cells_of (unhide HB5) 0 _ rfl
    have m1 : w5.cell? ⟨w1.heap.size, 1, none⟩ = some (.string b) := cells_of (unhide HB5) 1 _ rfl
    have f5 : ∀ i, w5.frozen? ⟨w1.heap.size, i, none⟩ = false := fun i => Lib.frozen_of_heap (unhide HB5) i
    clear o5 G5 X5 HSR HOE y3n y3 y0 y1 f4
    rw [Nat.zero_add]
    have HBs : Hid ((((w5.setCell ⟨w1.heap.size, 3, none⟩ (.slice a5 50 c5)).setCell ⟨w1.heap.size, 0, none⟩ (.string l)).setCell ⟨w1.heap.size, 1, none⟩ (.string r)).heap[w1.heap.size]? = some (.cells #[.string l, .string r, .string c, .slice a5 50 c5] 46 (0, 0))) := hide (set_blk2 (set_blk2 (set_blk2 (unhide HB5) rfl) rfl) rfl)
    have HB1s : Hid ((((w5.setCell ⟨w1.heap.size, 3, none⟩ (.slice a5 50 c5)).setCell ⟨w1.heap.size, 0, none⟩ (.string l)).setCell ⟨w1.heap.size, 1, none⟩ (.string r)).heap[w.heap.size + 1]? = some (.cells #[.string { data := #[] }, .string { data := #[] }, .string { data := #[] }, .slice none 0 0] 46 (0, 0))) := hide (set_else (set_else (set_else (unhide HB15) (by omega)) (by omega)) (by omega))
    go_wp2_with (first
      | (refine wpList_load_blk rfl 46 _ rfl (w1.heap.size) rfl _ _ _ _ (unhide HBs) Tryd.underlying46 rfl infoL ?_)
      | (refine wpList_store_blk rfl 46 _ _ rfl rfl (w.heap.size + 1) rfl _ _ _ rfl (unhide HB1s) infoL rfl (by simp [Value.oneCell']) ?_; intro Y hy hf9; have HY := hide hy; have FY := hide hf9; clear hy hf9))
    have FZ : Fr (fun q => q = w1.heap.size ∨ q = w.heap.size + 1) w5 Y := (Fr.setCell (Fr.setCell (Fr.setCell (S := fun q => q = w1.heap.size ∨ q = w.heap.size + 1) (Fr.refl _ w5) (a := ⟨w1.heap.size, 3, none⟩) (.inl rfl) _) (a := ⟨w1.heap.size, 0, none⟩) (.inl rfl) _) (a := ⟨w1.heap.size, 1, none⟩) (.inl rfl) _).tr ((unhide FY).mono (fun q hq => .inr hq))
    have v0 : Y.cell? ⟨w.heap.size + 1, 0, none⟩ = some (.string l) := cells_of (unhide HY) 0 _ rfl
    have v1 : Y.cell? ⟨w.heap.size + 1, 1, none⟩ = some (.string r) := cells_of (unhide HY) 1 _ rfl
    have v2 : Y.cell? ⟨w.heap.size + 1, 2, none⟩ = some (.string c) := cells_of (unhide HY) 2 _ rfl
    have v3 : Y.cell? ⟨w.heap.size + 1, 3, none⟩ = some (.slice a5 50 c5) := cells_of (unhide HY) 3 _ rfl
    have hl5 : uz.length = 50 := by rw [unhide HU, List.length_drop, unhide H1]
    have hO : Own2 Y w.heap.size 140 (.slice a5 50 c5) uz.length (fun j => .string (lnT uz j)) (fun j => .string (lnH uz j)) := by
      have h := unhide HO5
      rw [← unhide HU, ← hl5] at h
      rw [← hl5]
      refine ((own2_pr h).fr FZ (fun g hg e9 => ?_)).mono (by omega)
      have := (h.lt g hg).1
      omega
    exact bodyPost_ret (v := .agg #[.string l, .string r, .string c, .slice a5 50 c5]) (by simp [results, Tryd.results112, go_sem, v0, v1, v2, v3]) rfl ⟨_, rfl, hO, FZ.ext (unhide HE5) (fun q hq => by omega)⟩
  · have HU := hide (show uz = un ++ [(a, b)] by rw [unhide HUZ]; unfold undoN; rw [if_neg (by have := unhide HUL; omega)])
    have hlt : ¬ (50 : Int) < ((n + 1 : Nat) : Int) := by omega
    have hlt2 : ¬ 50 < n + 1 := by omega
    have HBs : Hid (((w4.setCell ⟨w1.heap.size, 0, none⟩ (.string l)).setCell ⟨w1.heap.size, 1, none⟩ (.string r)).heap[w1.heap.size]? = some (.cells #[.string l, .string r, .string c, .slice a3 (n + 1) c3] 46 (0, 0))) := hide (set_blk2 (set_blk2 (unhide HB4) rfl) rfl)
    have HB1s : Hid (((w4.setCell ⟨w1.heap.size, 0, none⟩ (.string l)).setCell ⟨w1.heap.size, 1, none⟩ (.string r)).heap[w.heap.size + 1]? = some (.cells #[.string { data := #[] }, .string { data := #[] }, .string { data := #[] }, .slice none 0 0] 46 (0, 0))) := hide (set_else (set_else (unhide HB14) (by omega)) (by omega))
    go_wp2_with (first
      | (refine wpList_load_blk rfl 46 _ rfl (w1.heap.size) rfl _ _ _ _ (unhide HBs) Tryd.underlying46 rfl infoL ?_)
      | (refine wpList_store_blk rfl 46 _ _ rfl rfl (w.heap.size + 1) rfl _ _ _ rfl (unhide HB1s) infoL rfl (by simp [Value.oneCell']) ?_; intro Y hy hf9; have HY := hide hy; have FY := hide hf9; clear hy hf9))
    have FZ : Fr (fun q => q = w1.heap.size ∨ q = w.heap.size + 1) w4 Y := (Fr.setCell (Fr.setCell (S := fun q => q = w1.heap.size ∨ q = w.heap.size + 1) (Fr.refl _ w4) (a := ⟨w1.heap.size, 0, none⟩) (.inl rfl) _) (a := ⟨w1.heap.size, 1, none⟩) (.inl rfl) _).tr ((unhide FY).mono (fun q hq => .inr hq))
    have v0 : Y.cell? ⟨w.heap.size + 1, 0, none⟩ = some (.string l) := cells_of (unhide HY) 0 _ rfl
    have v1 : Y.cell? ⟨w.heap.size + 1, 1, none⟩ = some (.string r) := cells_of (unhide HY) 1 _ rfl
    have v2 : Y.cell? ⟨w.heap.size + 1, 2, none⟩ = some (.string c) := cells_of (unhide HY) 2 _ rfl
    have v3 : Y.cell? ⟨w.heap.size + 1, 3, none⟩ = some (.slice a3 (n + 1) c3) := cells_of (unhide HY) 3 _ rfl
    have hO : Own2 Y w.heap.size 140 (.slice a3 (n + 1) c3) uz.length (fun j => .string (lnT uz j)) (fun j => .string (lnH uz j)) := by
      have h := (unhide HO4)
      rw [← unhide H1, ← unhide HU] at h
      rw [← unhide H1, ← unhide HU]
      refine ((own2_pr h).fr FZ (fun g hg e9 => ?_)).mono (by omega)
      rcases e9 with e9 | e9
      · subst e9
        obtain ⟨c9, k9⟩ := owns_kind h hg
        rw [unhide HB4] at k9
        injection k9 with k9
        injection k9 with _ k9
        exact absurd k9 (by decide)
      · have := (h.lt g hg).1
        omega
    exact bodyPost_ret (v := .agg #[.string l, .string r, .string c, .slice a3 (n + 1) c3]) (by simp [results, Tryd.results112, go_sem, v0, v1, v2, v3]) rfl ⟨_, rfl, hO, FZ.ext (unhide HE4) (fun q hq => by omega)⟩
end Go.Proofs.YtbieoijeilhadaaDoor

namespace Go.Proofs.YtbieoijeilhadaaDoor
open Go.RowKit
set_option maxRecDepth 10000 in
set_option maxHeartbeats 4000000 in
theorem l4Killed_no (a b c l r : ByteArray) (v : Value) (n : Nat) (tx hf : Nat → ByteArray) (w : World) (hv : Row2At w v n (fun j => .string (tx j)) (fun j => .string (hf j))) (hn : n ≤ 50) :
    Calls Tryd.prog 127 #[.agg #[.string a, .string b, .string c, v], .string { data := #[] }, .string l, .string r] w fun e w' => ∃ v', e = .returned (.tuple #[.agg #[.string a, .string b, .string c, v'], .int .i64 2]) ∧ Own2 w' w.heap.size 140 v' n (fun j => .string (tx j)) (fun j => .string (hf j)) ∧ Ext w w' := by
  have infoL : (Tryd.prog.info? 46).map (·.size) = some 4 := by kernel_rfl
  have HC := hide (fun W (E : Ext w W) => l4Copy_any a b c v n tx hf W (hv.ext E) (by omega))
  obtain ⟨ao, ca, rfl, _, _⟩ := hv
  obtain ⟨V, hV⟩ : ∃ V, V = (w.alloc (.cells #[.string a, .string b, .string c, .slice ao n ca] 46)).alloc (.cells #[.string { data := #[] }, .string { data := #[] }, .string { data := #[] }, .slice none 0 0] 46) := ⟨_, rfl⟩
  have E0 : Ext w V := by rw [hV]; exact ((Ext.refl w).alloc _).alloc _
  have HB1 : Hid (V.heap[w.heap.size + 1]? = some (.cells #[.string { data := #[] }, .string { data := #[] }, .string { data := #[] }, .slice none 0 0] 46 (0, 0))) := hide (by rw [hV]; have h := new_block (w.alloc (.cells #[.string a, .string b, .string c, .slice ao n ca] 46)) (.cells #[.string { data := #[] }, .string { data := #[] }, .string { data := #[] }, .slice none 0 0] 46); rw [show (w.alloc (.cells #[.string a, .string b, .string c, .slice ao n ca] 46)).heap.size = w.heap.size + 1 by simp] at h; exact h)
  have sz0 : w.heap.size + 1 < V.heap.size := lt_of_block (unhide HB1)
  have HV := hide hV
  clear hV
  go_enter Tryd.func127, Tryd.ntmps127
  go_wp2_with fail
  rw [← unhide HV]
  clear HV
  refine ((unhide HC) _ E0).mono ?_
  rintro e w1 ⟨ua, uc, rfl, HO, E1⟩
  replace HB1 := hide (E1.kept (unhide HB1))
  have HE := hide (E0.trans E1)
  clear HC E0 E1
  go_wp2_with (first
    | (refine wpList_store_blk rfl 46 _ _ rfl rfl (w.heap.size + 1) rfl _ _ _ rfl (unhide HB1) infoL rfl (by simp [Value.oneCell']) ?_; intro Z hy hf9; have HY := hide hy; have FY := hide hf9; clear hy hf9))
  have v0 : Z.cell? ⟨w.heap.size + 1, 0, none⟩ = some (.string a) := cells_of (unhide HY) 0 _ rfl
  have v1 : Z.cell? ⟨w.heap.size + 1, 1, none⟩ = some (.string b) := cells_of (unhide HY) 1 _ rfl
  have v2 : Z.cell? ⟨w.heap.size + 1, 2, none⟩ = some (.string c) := cells_of (unhide HY) 2 _ rfl
  have v3 : Z.cell? ⟨w.heap.size + 1, 3, none⟩ = some (.slice ua n uc) := cells_of (unhide HY) 3 _ rfl
  exact bodyPost_ret (v := .tuple #[.agg #[.string a, .string b, .string c, .slice ua n uc], .int .i64 2]) (by simp [results, Tryd.results127, go_sem, v0, v1, v2, v3]) rfl ⟨_, rfl, ((unhide HO).fr (unhide FY) (fun g hg e9 => by have := ((unhide HO).lt g hg).1; omega)).mono (by omega), (unhide FY).ext (unhide HE) (fun q hq => by omega)⟩
set_option maxRecDepth 10000 in
set_option maxHeartbeats 4000000 in
theorem l4Killed_yes (a b c t l r : ByteArray) (ht : t.toList ≠ []) (v : Value) (n : Nat) (tx hf : Nat → ByteArray) (w : World) (hv : Row2At w v n (fun j => .string (tx j)) (fun j => .string (hf j))) (hn : n ≤ 50) :
    Calls Tryd.prog 127 #[.agg #[.string a, .string b, .string c, v], .string t, .string l, .string r] w fun e w' => ∃ v', e = .returned (.tuple #[.agg #[.string l, .string r, .string t, v'], .int .i64 1]) ∧ Own2 w' w.heap.size 140 v' (undoN (unL tx hf n) (a, b)).length (fun j => .string (lnT (undoN (unL tx hf n) (a, b)) j)) (fun j => .string (lnH (undoN (unL tx hf n) (a, b)) j)) ∧ Ext w w' := by
  have infoL : (Tryd.prog.info? 46).map (·.size) = some 4 := by kernel_rfl
  have HC := hide (fun W (E : Ext w W) => l4Set_any a b c l r v n tx hf W (hv.ext E) hn)
  obtain ⟨uz, huz⟩ : ∃ uz, uz = undoN (unL tx hf n) (a, b) := ⟨_, rfl⟩
  rw [← huz] at HC ⊢
  have ht2 : t.toList.isEmpty = false := by cases h : t.toList with | nil => exact absurd h ht | cons x y => rfl
  clear huz
  obtain ⟨ao, ca, rfl, _, _⟩ := hv
  obtain ⟨V, hV⟩ : ∃ V, V = (w.alloc (.cells #[.string a, .string b, .string c, .slice ao n ca] 46)).alloc (.cells #[.string { data := #[] }, .string { data := #[] }, .string { data := #[] }, .slice none 0 0] 46) := ⟨_, rfl⟩
  have E0 : Ext w V := by rw [hV]; exact ((Ext.refl w).alloc _).alloc _
  have HB1 : Hid (V.heap[w.heap.size + 1]? = some (.cells #[.string { data := #[] }, .string { data := #[] }, .string { data := #[] }, .slice none 0 0] 46 (0, 0))) := hide (by rw [hV]; have h := new_block (w.alloc (.cells #[.string a, .string b, .string c, .slice ao n ca] 46)) (.cells #[.string { data := #[] }, .string { data := #[] }, .string { data := #[] }, .slice none 0 0] 46); rw [show (w.alloc (.cells #[.string a, .string b, .string c, .slice ao n ca] 46)).heap.size = w.heap.size + 1 by simp] at h; exact h)
  have sz0 : w.heap.size + 1 < V.heap.size := lt_of_block (unhide HB1)
  have HV := hide hV
  clear hV
  go_enter Tryd.func127, Tryd.ntmps127
  go_wp2_with fail
  rw [← unhide HV]
  clear HV
  refine ((unhide HC) _ E0).mono ?_
  rintro e w1 ⟨v1, rfl, hO, E1⟩
  obtain ⟨ua, un, uc, rfl⟩ : ∃ ua un uc, v1 = .slice ua un uc := by
    obtain ⟨g1, g2, e1, _⟩ := hO.reads
    exact ⟨_, _, _, e1⟩
  have HO := hide hO
  replace HB1 := hide (E1.kept (unhide HB1))
  have HE := hide (E0.trans E1)
  have z1 := E1.size
  have hb1 := lt_of_block (unhide HB1)
  have HN := hide (heap_alloc_new w1 (.cells #[.string { data := #[] }, .string { data := #[] }, .string { data := #[] }, .slice none 0 0] 46))
  clear HC E0 E1 hO
  go_wp2_with (first
    | (refine wpList_store_blk rfl 46 _ _ rfl rfl (w1.heap.size) rfl _ _ _ rfl (unhide HN) infoL rfl (by simp [Value.oneCell']) ?_; intro U hB hU; have hU1 := hU.ext ((Ext.refl w1).alloc _) (fun q hq => by omega); have HEU := hide hU1; have HBU := hide hB; have u2 : U.cell? ⟨w1.heap.size, 2, none⟩ = some (.string c) := cells_of hB 2 _ rfl; have fu : ∀ i, U.frozen? ⟨w1.heap.size, i, none⟩ = false := fun i => Lib.frozen_of_heap hB i; have HBs := hide (set_blk2 (i := 2) (v := .string t) (cs' := #[.string l, .string r, .string t, .slice ua un uc]) hB rfl); have HB1s := hide (set_else (c := w1.heap.size) (i := 2) (v := .string t) (hU1.kept (unhide HB1)) (by omega)); clear hB hU hU1)
    | (refine wpList_load_blk rfl 46 _ rfl (w1.heap.size) rfl _ _ _ _ (unhide HBs) Tryd.underlying46 rfl infoL ?_)
    | (refine wpList_store_blk rfl 46 _ _ rfl rfl (w.heap.size + 1) rfl _ _ _ rfl (unhide HB1s) infoL rfl (by simp [Value.oneCell']) ?_; intro Z hy hf9; have HY := hide hy; have FY := hide hf9; clear hy hf9))
  have v0 : Z.cell? ⟨w.heap.size + 1, 0, none⟩ = some (.string l) := cells_of (unhide HY) 0 _ rfl
  have v1 : Z.cell? ⟨w.heap.size + 1, 1, none⟩ = some (.string r) := cells_of (unhide HY) 1 _ rfl
  have v2 : Z.cell? ⟨w.heap.size + 1, 2, none⟩ = some (.string t) := cells_of (unhide HY) 2 _ rfl
  have v3 : Z.cell? ⟨w.heap.size + 1, 3, none⟩ = some (.slice ua un uc) := cells_of (unhide HY) 3 _ rfl
  have FZ : Fr (fun q => q = w1.heap.size ∨ q = w.heap.size + 1) U Z := (Fr.setCell (S := fun q => q = w1.heap.size ∨ q = w.heap.size + 1) (Fr.refl _ U) (a := ⟨w1.heap.size, 2, none⟩) (.inl rfl) _).tr ((unhide FY).mono (fun q hq => .inr hq))
  exact bodyPost_ret (v := .tuple #[.agg #[.string l, .string r, .string t, .slice ua un uc], .int .i64 1]) (by simp [results, Tryd.results127, go_sem, v0, v1, v2, v3]) rfl ⟨_, rfl, (((unhide HO).ext (unhide HEU)).fr FZ (fun g hg e9 => by have := (unhide HO).lt g hg; omega)).mono (by omega), FZ.ext ((unhide HE).trans (unhide HEU)) (fun q hq => by omega)⟩
end Go.Proofs.YtbieoijeilhadaaDoor
