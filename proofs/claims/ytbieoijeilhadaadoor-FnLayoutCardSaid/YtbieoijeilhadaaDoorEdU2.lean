import Derived.Test.YtbieoijeilhadaaDoorEdK
import Derived.Test.YtbieoijeilhadaaDoorGap
namespace Go.Proofs.YtbieoijeilhadaaDoor
open Go.RowKit
set_option maxRecDepth 10000 in
set_option maxHeartbeats 4000000 in
theorem l4Undone_no (a b c : ByteArray) (v : Value) (n : Nat) (tx hf : Nat → ByteArray) (w : World) (hv : Row2At w v n (fun j => .string (tx j)) (fun j => .string (hf j))) (hn : n ≤ 50) (hz : n = 0) :
    Calls Tryd.prog 131 #[.agg #[.string a, .string b, .string c, v]] w fun e w' => ∃ v', e = .returned (.tuple #[.agg #[.string a, .string b, .string c, v'], .int .i64 2]) ∧ Own2 w' w.heap.size 140 v' 0 (fun j => .string (tx j)) (fun j => .string (hf j)) ∧ Ext w w' := by
  have HZ := hide hz
  clear hz
  have infoL : (Tryd.prog.info? 46).map (·.size) = some 4 := by kernel_rfl
  have HC := hide (fun W (E : Ext w W) => l4Copy_any a b c v n tx hf W (hv.ext E) (by omega))
  obtain ⟨ao, ca, rfl, _, _⟩ := hv
  obtain ⟨V, hV⟩ : ∃ V, V = (w.alloc (.cells #[.string a, .string b, .string c, .slice ao n ca] 46)).alloc (.cells #[.string { data := #[] }, .string { data := #[] }, .string { data := #[] }, .slice none 0 0] 46) := ⟨_, rfl⟩
  have E0 : Ext w V := by rw [hV]; exact ((Ext.refl w).alloc _).alloc _
  have HB1 : Hid (V.heap[w.heap.size + 1]? = some (.cells #[.string { data := #[] }, .string { data := #[] }, .string { data := #[] }, .slice none 0 0] 46 (0, 0))) := hide (by rw [hV]; have h := new_block (w.alloc (.cells #[.string a, .string b, .string c, .slice ao n ca] 46)) (.cells #[.string { data := #[] }, .string { data := #[] }, .string { data := #[] }, .slice none 0 0] 46); rw [show (w.alloc (.cells #[.string a, .string b, .string c, .slice ao n ca] 46)).heap.size = w.heap.size + 1 by simp] at h; exact h)
  have sz0 : w.heap.size + 1 < V.heap.size := lt_of_block (unhide HB1)
  have HV := hide hV
  clear hV
  go_enter Tryd.func131, Tryd.ntmps131
  go_wp2_with fail
  rw [← unhide HV]
  clear HV
  refine ((unhide HC) _ E0).mono ?_
  rintro e w1 ⟨ua, uc, rfl, HO, E1⟩
  replace HB1 := hide (E1.kept (unhide HB1))
  have HE := hide (E0.trans E1)
  have z1 := E1.size
  have hb1 := lt_of_block (unhide HB1)
  have HN := hide (heap_alloc_new w1 (.cells #[.string { data := #[] }, .string { data := #[] }, .string { data := #[] }, .slice none 0 0] 46))
  clear HC E0 E1
  have hz := unhide HZ
  subst hz
  go_wp2_with (first
    | (refine wpList_store_blk rfl 46 _ _ rfl rfl (w1.heap.size) rfl _ _ _ rfl (unhide HN) infoL rfl (by simp [Value.oneCell']) ?_; intro U hB hU; have hU1 := hU.ext ((Ext.refl w1).alloc _) (fun q hq => by omega); have HEU := hide hU1; have HBU := hide hB; have u3 : U.cell? ⟨w1.heap.size, 3, none⟩ = some (.slice ua 0 uc) := cells_of hB 3 _ rfl; have HB1s := hide (hU1.kept (unhide HB1)); clear hB hU hU1)
    | (refine wpList_load_blk rfl 46 _ rfl (w1.heap.size) rfl _ _ _ _ (unhide HBU) Tryd.underlying46 rfl infoL ?_)
    | (refine wpList_store_blk rfl 46 _ _ rfl rfl (w.heap.size + 1) rfl _ _ _ rfl (unhide HB1s) infoL rfl (by simp [Value.oneCell']) ?_; intro Z hy hf9; have HY := hide hy; have FY := hide hf9; clear hy hf9))
  have v0 : Z.cell? ⟨w.heap.size + 1, 0, none⟩ = some (.string a) := cells_of (unhide HY) 0 _ rfl
  have v1 : Z.cell? ⟨w.heap.size + 1, 1, none⟩ = some (.string b) := cells_of (unhide HY) 1 _ rfl
  have v2 : Z.cell? ⟨w.heap.size + 1, 2, none⟩ = some (.string c) := cells_of (unhide HY) 2 _ rfl
  have v3 : Z.cell? ⟨w.heap.size + 1, 3, none⟩ = some (.slice ua 0 uc) := cells_of (unhide HY) 3 _ rfl
  exact bodyPost_ret (v := .tuple #[.agg #[.string a, .string b, .string c, .slice ua 0 uc], .int .i64 2]) (by simp [results, Tryd.results131, go_sem, v0, v1, v2, v3]) rfl ⟨_, rfl, (((unhide HO).ext (unhide HEU)).fr (unhide FY) (fun g hg e9 => by have := (unhide HO).lt g hg; omega)).mono (by omega), (unhide FY).ext ((unhide HE).trans (unhide HEU)) (fun q hq => by omega)⟩
end Go.Proofs.YtbieoijeilhadaaDoor

namespace Go.Proofs.YtbieoijeilhadaaDoor
open Go.RowKit
theorem own2_take {w : World} {base : Nat} {T : TypeId} {g c N : Nat} {A B : Nat → Value} (h : Own2 w base T (.slice (some ⟨g, 0, none⟩) N c) N A B) (m : Nat) (hm : m ≤ N) : Own2 w base T (.slice (some ⟨g, 0, none⟩) m c) m A B := by
  obtain ⟨ys, ⟨h1, h2⟩, h9⟩ := h
  refine ⟨ys.take (m * 2), ⟨by rw [List.length_take]; omega, ?_⟩, fun j hj => ?_⟩
  · rcases h2 with ⟨e, _⟩ | ⟨g', cap, cur, e, h3, h4, h5, h6, h7, h8⟩
    · simp at e
    · obtain ⟨e1, _, rfl⟩ := Value.slice.inj e
      obtain rfl : g = g' := by simpa using e1
      refine .inr ⟨g, c, cur, rfl, h3, h4, by omega, h6, h7, ?_⟩
      rw [← h8, List.take_take]
      congr 1
      omega
  · rw [List.getElem?_take, List.getElem?_take, if_pos (by omega), if_pos (by omega)]
    exact h9 j (by omega)
set_option maxRecDepth 10000 in
set_option maxHeartbeats 4000000 in
theorem l4Undone_yes (a b c : ByteArray) (v : Value) (un : List (ByteArray × ByteArray)) (w : World) (hv : LnAt w v un) (hn : un.length ≤ 50) (hz : 0 < un.length) :
    Calls Tryd.prog 131 #[.agg #[.string a, .string b, .string c, v]] w fun e w' => LnO w' w.heap.size (edUndo a b c un) e ∧ Ext w w' := by
  have infoL : (Tryd.prog.info? 46).map (·.size) = some 4 := by kernel_rfl
  have HC := hide (fun W (E : Ext w W) => l4Copy_any a b c v un.length (lnT un) (lnH un) W (Row2At.ext hv E) (by omega))
  obtain ⟨ao, ca, rfl, _, _⟩ := hv
  obtain ⟨n, hnn⟩ : ∃ n, un.length = n := ⟨_, rfl⟩
  obtain ⟨p, hp⟩ : ∃ p, n - 1 = p := ⟨_, rfl⟩
  obtain ⟨TA, hTA⟩ : ∃ x, x = lnT un p := ⟨_, rfl⟩
  obtain ⟨TB, hTB⟩ : ∃ x, x = lnH un p := ⟨_, rfl⟩
  have HXO : Hid (edUndo a b c un = ⟨TA, TB, c, un.take p, 1⟩) := hide (by rw [edUndo, if_neg (by omega), hnn, hp, hTA, hTB])
  have HUL := hide hnn
  rw [hnn] at HC hn hz
  have HTA := hide hTA
  have HTB := hide hTB
  have HPN : Hid (p + 1 = n) := hide (by omega)
  have hw1 : IntKind.i64.wrap ((n : Int) - 1) = (p : Int) := by rw [IntKind.wrap_i64]; omega
  have hnI : ¬ (n : Int) = 0 := by omega
  have hnB : ((n : Int) == 0) = false := by simp; omega
  have b1 : (p : Int) < (n : Int) := by omega
  have b2 : (0 : Int) ≤ (p : Int) := by omega
  have h50 : n ≤ 50 := hn
  clear hTA hTB hp hn hz
  rw [hnn]
  clear hnn
  obtain ⟨V, hV⟩ : ∃ V, V = (w.alloc (.cells #[.string a, .string b, .string c, .slice ao n ca] 46)).alloc (.cells #[.string { data := #[] }, .string { data := #[] }, .string { data := #[] }, .slice none 0 0] 46) := ⟨_, rfl⟩
  have E0 : Ext w V := by rw [hV]; exact ((Ext.refl w).alloc _).alloc _
  have HB1 : Hid (V.heap[w.heap.size + 1]? = some (.cells #[.string { data := #[] }, .string { data := #[] }, .string { data := #[] }, .slice none 0 0] 46 (0, 0))) := hide (by rw [hV]; have h := new_block (w.alloc (.cells #[.string a, .string b, .string c, .slice ao n ca] 46)) (.cells #[.string { data := #[] }, .string { data := #[] }, .string { data := #[] }, .slice none 0 0] 46); rw [show (w.alloc (.cells #[.string a, .string b, .string c, .slice ao n ca] 46)).heap.size = w.heap.size + 1 by simp] at h; exact h)
  have sz0 : w.heap.size + 1 < V.heap.size := lt_of_block (unhide HB1)
  have HV := hide hV
  have HCc := hide ((unhide HC) V E0)
  have HE0 := hide E0
  clear hV E0 HC
  go_enter Tryd.func131, Tryd.ntmps131
  go_wp2_with fail
  rw [← unhide HV]
  clear HV
  refine (unhide HCc).mono ?_
  rintro e w1 ⟨ua, uc, rfl, HO, E1⟩
  replace HB1 := hide (E1.kept (unhide HB1))
  have HE := hide ((unhide HE0).trans E1)
  have z1 := E1.size
  have hb1 := lt_of_block (unhide HB1)
  have HN := hide (heap_alloc_new w1 (.cells #[.string { data := #[] }, .string { data := #[] }, .string { data := #[] }, .slice none 0 0] 46))
  clear HCc HE0 E1
  have hcap : n ≤ uc := by
    obtain ⟨a9, c9, e9, h9, _⟩ := (unhide HO).reads
    obtain ⟨_, _, rfl⟩ := Value.slice.inj e9
    exact h9
  obtain ⟨g, rfl⟩ : ∃ g, ua = some ⟨g, 0, none⟩ := by
    rcases (unhide HO).form with ⟨_, h3⟩ | ⟨g, c8, e8⟩
    · have := unhide HPN; omega
    · exact ⟨g, (Value.slice.inj e8).1⟩
  have b3 : (p : Int) ≤ (uc : Int) := by omega
  have hgl := ((unhide HO).lt g rfl)
  obtain ⟨G, hG⟩ : ∃ G, G = w1.heap.size := ⟨_, rfl⟩
  have hGw : w.heap.size + 1 < G := by omega
  have HGg : Hid (g ≠ G) := hide (by omega)
  have HG := hide hG
  clear hG hcap
  go_wp2_with (first
    | (refine wpList_store_blk rfl 46 _ _ rfl rfl (w1.heap.size) rfl _ _ _ rfl (unhide HN) infoL rfl (by simp [Value.oneCell']) ?_; intro U hB hU; have hU1 := hU.ext ((Ext.refl w1).alloc _) (fun q hq => by omega); rw [← unhide HG] at hB; have HEU := hide hU1; have HOU := hide ((unhide HO).ext hU1); have HBU := hide hB; have HB1U := hide (hU1.kept (unhide HB1)); clear hB hU hU1; refine StopQ.intro ?_))
  show wpList _ _ _ _ _ _
  rw [← unhide HG]
  have u3 : U.cell? ⟨G, 3, none⟩ = some (.slice (some ⟨g, 0, none⟩) n uc) := cells_of (unhide HBU) 3 _ rfl
  have u0 : U.cell? ⟨G, 0, none⟩ = some (.string a) := cells_of (unhide HBU) 0 _ rfl
  have fu : ∀ i, U.frozen? ⟨G, i, none⟩ = false := fun i => Lib.frozen_of_heap (unhide HBU) i
  have r0 : U.cell? ⟨g, p * 2, none⟩ = some (.string TA) := by rw [unhide HTA]; exact ((unhide HOU).cell (show p < n by have := unhide HPN; omega)).1.1
  go_upto_region 6 with fail
  have F1 : Fr (fun q => q = G) U (U.setCell ⟨G, 0, none⟩ (.string TA)) := Fr.setCell (S := fun q => q = G) (Fr.refl _ U) (a := ⟨G, 0, none⟩) rfl _
  have HB5 := hide (set_blk2 (i := 0) (v := .string TA) (cs' := #[.string TA, .string b, .string c, .slice (some ⟨g, 0, none⟩) n uc]) (unhide HBU) rfl)
  obtain ⟨X1, hX1⟩ : ∃ X1, X1 = U.setCell ⟨G, 0, none⟩ (.string TA) := ⟨_, rfl⟩
  rw [← hX1] at F1 HB5 ⊢
  have HF1 := hide F1
  have HO1 := hide ((unhide HOU).fr F1 (fun q hq e9 => by
    have e : q = g := by simpa [Value.ownBlock] using hq.symm
    exact (unhide HGg) (by rw [← e]; exact e9)))
  clear hX1 F1 u0 u3 fu r0
  have u3 : X1.cell? ⟨G, 3, none⟩ = some (.slice (some ⟨g, 0, none⟩) n uc) := cells_of (unhide HB5) 3 _ rfl
  have u1 : X1.cell? ⟨G, 1, none⟩ = some (.string b) := cells_of (unhide HB5) 1 _ rfl
  have fu : ∀ i, X1.frozen? ⟨G, i, none⟩ = false := fun i => Lib.frozen_of_heap (unhide HB5) i
  have r1 : X1.cell? ⟨g, p * 2 + 1, none⟩ = some (.string TB) := by rw [unhide HTB]; exact ((unhide HO1).cell (show p < n by have := unhide HPN; omega)).2.1
  go_upto_region 7 with fail
  have F2 : Fr (fun q => q = G) X1 (X1.setCell ⟨G, 1, none⟩ (.string TB)) := Fr.setCell (S := fun q => q = G) (Fr.refl _ X1) (a := ⟨G, 1, none⟩) rfl _
  have HB6 := hide (set_blk2 (i := 1) (v := .string TB) (cs' := #[.string TA, .string TB, .string c, .slice (some ⟨g, 0, none⟩) n uc]) (unhide HB5) rfl)
  obtain ⟨X2, hX2⟩ : ∃ X2, X2 = X1.setCell ⟨G, 1, none⟩ (.string TB) := ⟨_, rfl⟩
  rw [← hX2] at F2 HB6 ⊢
  have HF2 := hide ((unhide HF1).tr F2)
  clear hX2 F2 u1 u3 fu r1
  have u3 : X2.cell? ⟨G, 3, none⟩ = some (.slice (some ⟨g, 0, none⟩) n uc) := cells_of (unhide HB6) 3 _ rfl
  have fu : ∀ i, X2.frozen? ⟨G, i, none⟩ = false := fun i => Lib.frozen_of_heap (unhide HB6) i
  have HBs := hide (set_blk2 (i := 3) (v := .slice (some ⟨g, 0, none⟩) p uc) (cs' := #[.string TA, .string TB, .string c, .slice (some ⟨g, 0, none⟩) p uc]) (unhide HB6) rfl)
  have F3 := (unhide HF2).setCell (a := ⟨G, 3, none⟩) rfl (.slice (some ⟨g, 0, none⟩) p uc)
  have HF3 := hide F3
  have HB1s := hide (F3.kept (unhide HB1U) (by omega))
  clear F3
  go_wp2_with (first
    | (refine wpList_load_blk rfl 46 _ rfl G rfl _ _ _ _ (unhide HBs) Tryd.underlying46 rfl infoL ?_)
    | (refine wpList_store_blk rfl 46 _ _ rfl rfl (w.heap.size + 1) rfl _ _ _ rfl (unhide HB1s) infoL rfl (by simp [Value.oneCell']) ?_; intro Z hy hf9; have HY := hide hy; have FY := hide hf9; clear hy hf9))
  have v0 : Z.cell? ⟨w.heap.size + 1, 0, none⟩ = some (.string TA) := cells_of (unhide HY) 0 _ rfl
  have v1 : Z.cell? ⟨w.heap.size + 1, 1, none⟩ = some (.string TB) := cells_of (unhide HY) 1 _ rfl
  have v2 : Z.cell? ⟨w.heap.size + 1, 2, none⟩ = some (.string c) := cells_of (unhide HY) 2 _ rfl
  have v3 : Z.cell? ⟨w.heap.size + 1, 3, none⟩ = some (.slice (some ⟨g, 0, none⟩) p uc) := cells_of (unhide HY) 3 _ rfl
  have FZ : Fr (fun q => q = G ∨ q = w.heap.size + 1) U Z := ((unhide HF3).mono (fun q hq => .inl hq)).tr ((unhide FY).mono (fun q hq => .inr hq))
  have hO := (unhide HOU).fr FZ (fun q hq e9 => by
    have e : q = g := by simpa [Value.ownBlock] using hq.symm
    rcases e9 with e9 | e9
    · exact (unhide HGg) (by rw [← e]; exact e9)
    · omega)
  have hpl : (un.take p).length = p := by rw [List.length_take, unhide HUL]; have := unhide HPN; omega
  have hO2 : Own2 Z w.heap.size 140 (.slice (some ⟨g, 0, none⟩) p uc) (un.take p).length (fun j => .string (lnT (un.take p) j)) (fun j => .string (lnH (un.take p) j)) := by
    rw [hpl]
    refine ((own2_take hO p (by have := unhide HPN; omega)).mono (by omega)).congr (fun j hj => ?_)
    simp [lnT, lnH, hj]
  exact bodyPost_ret (v := .tuple #[.agg #[.string TA, .string TB, .string c, .slice (some ⟨g, 0, none⟩) p uc], .int .i64 1]) (by simp [results, Tryd.results131, go_sem, v0, v1, v2, v3]) rfl (by rw [unhide HXO]; exact ⟨⟨_, rfl, hO2⟩, FZ.ext ((unhide HE).trans (unhide HEU)) (fun q hq => by omega)⟩)
end Go.Proofs.YtbieoijeilhadaaDoor
