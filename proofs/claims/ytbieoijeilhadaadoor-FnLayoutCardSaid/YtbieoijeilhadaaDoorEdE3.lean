import Derived.Test.YtbieoijeilhadaaDoorGap
import Derived.Test.YtbieoijeilhadaaDoorEdK
import Derived.Test.YtbieoijeilhadaaDoorLineS2
namespace Go.Proofs.YtbieoijeilhadaaDoor
open Go.RowKit
set_option maxRecDepth 10000 in
set_option maxHeartbeats 8000000 in
theorem specEdit_no (a b c : ByteArray) (v : Value) (un : List (ByteArray × ByteArray)) (ra : Option Addr) (rn rc : Nat) (w : World) (hv : LnAt w v un) (ha : a.size ≤ 1048576) (hb : b.size ≤ 1048576) (hc : c.size ≤ 1048576) (hn : un.length ≤ 1048576) (hx : ∀ j, j < un.length → (lnT un j).size ≤ 1048576 ∧ (lnH un j).size ≤ 1048576) (kd : Int) (hP : ¬ LineP a b c un.length (lnT un) (lnH un)) :
    Calls Tryd.prog 111 #[.agg #[.string a, .string b, .string c, v], .agg #[.int .i64 kd, .slice ra rn rc]] w fun e w' => LnO w' w.heap.size ⟨a, b, c, un, 0⟩ e ∧ Ext w w' := by
  have infoL : (Tryd.prog.info? 46).map (·.size) = some 4 := by kernel_rfl
  obtain ⟨ao, ca, rfl, _, _⟩ := id hv
  have H1 := hide (fun W (E : Ext w W) => specLineOk_all a b c ao un.length ca (lnT un) (lnH un) W (Row2At.ext hv E) ha hb hc hx false (by simp [hP]))
  have HC := hide (fun W (E : Ext w W) => l4Copy_any a b c (.slice ao un.length ca) un.length (lnT un) (lnH un) W (Row2At.ext hv E) hn)
  clear hP hv hx
  obtain ⟨V, hV⟩ : ∃ V, V = ((w.alloc (.cells #[.string a, .string b, .string c, .slice ao un.length ca] 46)).alloc (.cells #[.int .i64 kd, .slice ra rn rc] 67)).alloc (.cells #[.string { data := #[] }, .string { data := #[] }, .string { data := #[] }, .slice none 0 0] 46) := ⟨_, rfl⟩
  have E0 : Ext w V := by rw [hV]; exact (((Ext.refl w).alloc _).alloc _).alloc _
  have HB0 : Hid (V.heap[w.heap.size]? = some (.cells #[.string a, .string b, .string c, .slice ao un.length ca] 46 (0, 0))) := hide (by rw [hV]; exact (((Ext.refl _).alloc _).alloc _).kept (new_block w _))
  have HBK : Hid (V.heap[w.heap.size + 1]? = some (.cells #[.int .i64 kd, .slice ra rn rc] 67 (0, 0))) := hide (by rw [hV]; have h := new_block (w.alloc (.cells #[.string a, .string b, .string c, .slice ao un.length ca] 46)) (.cells #[.int .i64 kd, .slice ra rn rc] 67); rw [show (w.alloc (.cells #[.string a, .string b, .string c, .slice ao un.length ca] 46)).heap.size = w.heap.size + 1 by simp] at h; exact ((Ext.refl _).alloc _).kept h)
  have HB1 : Hid (V.heap[w.heap.size + 2]? = some (.cells #[.string { data := #[] }, .string { data := #[] }, .string { data := #[] }, .slice none 0 0] 46 (0, 0))) := hide (by rw [hV]; have h := new_block ((w.alloc (.cells #[.string a, .string b, .string c, .slice ao un.length ca] 46)).alloc (.cells #[.int .i64 kd, .slice ra rn rc] 67)) (.cells #[.string { data := #[] }, .string { data := #[] }, .string { data := #[] }, .slice none 0 0] 46); rw [show ((w.alloc (.cells #[.string a, .string b, .string c, .slice ao un.length ca] 46)).alloc (.cells #[.int .i64 kd, .slice ra rn rc] 67)).heap.size = w.heap.size + 2 by simp] at h; exact h)
  have sz0 : w.heap.size + 2 < V.heap.size := lt_of_block (unhide HB1)
  have HW := hide hV
  clear hV
  go_enter Tryd.func111, Tryd.ntmps111
  go_wp2_with fail
  rw [← unhide HW]
  clear HW
  refine ((unhide H1) _ E0).mono ?_
  rintro e w1 ⟨rfl, E1⟩
  have HE0 := hide (E0.trans E1)
  replace HB0 := hide (E1.kept (unhide HB0))
  replace HBK := hide (E1.kept (unhide HBK))
  replace HB1 := hide (E1.kept (unhide HB1))
  have z1 := E1.size
  clear E0 E1 H1
  have HCc := hide ((unhide HC) w1 (unhide HE0))
  clear HC HBK
  go_wp2_with (first
    | (refine wpList_load_blk rfl 46 _ rfl (w.heap.size) rfl _ _ _ _ (unhide HB0) Tryd.underlying46 rfl infoL ?_))
  refine (unhide HCc).mono ?_
  rintro e w5 ⟨ua, uc, rfl, HO, E5⟩
  replace HB1 := hide (E5.kept (unhide HB1))
  replace HE0 := hide ((unhide HE0).trans E5)
  clear E5 HB0 HCc
  go_wp2_with (first
    | (refine wpList_store_blk rfl 46 _ _ rfl rfl (w.heap.size + 2) rfl _ _ _ rfl (unhide HB1) infoL rfl (by simp [Value.oneCell']) ?_; intro Z hy hf9; have HY := hide hy; have FY := hide hf9; clear hy hf9))
  have v0 : Z.cell? ⟨w.heap.size + 2, 0, none⟩ = some (.string a) := cells_of (unhide HY) 0 _ rfl
  have v1 : Z.cell? ⟨w.heap.size + 2, 1, none⟩ = some (.string b) := cells_of (unhide HY) 1 _ rfl
  have v2 : Z.cell? ⟨w.heap.size + 2, 2, none⟩ = some (.string c) := cells_of (unhide HY) 2 _ rfl
  have v3 : Z.cell? ⟨w.heap.size + 2, 3, none⟩ = some (.slice ua un.length uc) := cells_of (unhide HY) 3 _ rfl
  exact bodyPost_ret (v := .tuple #[.agg #[.string a, .string b, .string c, .slice ua un.length uc], .int .i64 0]) (by simp [results, Tryd.results111, go_sem, v0, v1, v2, v3]) rfl ⟨⟨_, rfl, ((unhide HO).fr (unhide FY) (fun g hg e9 => by have := ((unhide HO).lt g hg).1; omega)).mono (by omega)⟩, (unhide FY).ext (unhide HE0) (fun q hq => by omega)⟩
set_option maxRecDepth 10000 in
set_option maxHeartbeats 8000000 in
theorem specEdit_moved (a b c : ByteArray) (v : Value) (un : List (ByteArray × ByteArray)) (ra : Option Addr) (rn rc : Nat) (w : World) (hv : LnAt w v un) (ha : a.size ≤ 1048576) (hb : b.size ≤ 1048576) (hc : c.size ≤ 1048576) (_hn : un.length ≤ 1048576) (hx : ∀ j, j < un.length → (lnT un j).size ≤ 1048576 ∧ (lnH un j).size ≤ 1048576) (kd : Int) (hP : LineP a b c un.length (lnT un) (lnH un)) (o : LD) (hd : 0 ≤ o.d) (HM : ∀ W u, Ext w W → LnAt W u un → Calls Tryd.prog 124 #[.agg #[.string a, .string b, .string c, u], .int .i64 kd] W fun e w' => LnO w' W.heap.size o e ∧ Ext W w') :
    Calls Tryd.prog 111 #[.agg #[.string a, .string b, .string c, v], .agg #[.int .i64 kd, .slice ra rn rc]] w fun e w' => LnO w' w.heap.size o e ∧ Ext w w' := by
  have infoL : (Tryd.prog.info? 46).map (·.size) = some 4 := by kernel_rfl
  obtain ⟨ao, ca, rfl, _, _⟩ := id hv
  have H1 := hide (fun W (E : Ext w W) => specLineOk_all a b c ao un.length ca (lnT un) (lnH un) W (Row2At.ext hv E) ha hb hc hx true (by simp [hP]))
  have HMv := hide (fun W (E : Ext w W) => HM W _ E (hv.ext E))
  clear hP hv hx HM
  obtain ⟨V, hV⟩ : ∃ V, V = ((w.alloc (.cells #[.string a, .string b, .string c, .slice ao un.length ca] 46)).alloc (.cells #[.int .i64 kd, .slice ra rn rc] 67)).alloc (.cells #[.string { data := #[] }, .string { data := #[] }, .string { data := #[] }, .slice none 0 0] 46) := ⟨_, rfl⟩
  have E0 : Ext w V := by rw [hV]; exact (((Ext.refl w).alloc _).alloc _).alloc _
  have HB0 : Hid (V.heap[w.heap.size]? = some (.cells #[.string a, .string b, .string c, .slice ao un.length ca] 46 (0, 0))) := hide (by rw [hV]; exact (((Ext.refl _).alloc _).alloc _).kept (new_block w _))
  have HBK : Hid (V.heap[w.heap.size + 1]? = some (.cells #[.int .i64 kd, .slice ra rn rc] 67 (0, 0))) := hide (by rw [hV]; have h := new_block (w.alloc (.cells #[.string a, .string b, .string c, .slice ao un.length ca] 46)) (.cells #[.int .i64 kd, .slice ra rn rc] 67); rw [show (w.alloc (.cells #[.string a, .string b, .string c, .slice ao un.length ca] 46)).heap.size = w.heap.size + 1 by simp] at h; exact ((Ext.refl _).alloc _).kept h)
  have HB1 : Hid (V.heap[w.heap.size + 2]? = some (.cells #[.string { data := #[] }, .string { data := #[] }, .string { data := #[] }, .slice none 0 0] 46 (0, 0))) := hide (by rw [hV]; have h := new_block ((w.alloc (.cells #[.string a, .string b, .string c, .slice ao un.length ca] 46)).alloc (.cells #[.int .i64 kd, .slice ra rn rc] 67)) (.cells #[.string { data := #[] }, .string { data := #[] }, .string { data := #[] }, .slice none 0 0] 46); rw [show ((w.alloc (.cells #[.string a, .string b, .string c, .slice ao un.length ca] 46)).alloc (.cells #[.int .i64 kd, .slice ra rn rc] 67)).heap.size = w.heap.size + 2 by simp] at h; exact h)
  have sz0 : w.heap.size + 2 < V.heap.size := lt_of_block (unhide HB1)
  have HW := hide hV
  clear hV
  go_enter Tryd.func111, Tryd.ntmps111
  go_wp2_with fail
  rw [← unhide HW]
  clear HW
  refine ((unhide H1) _ E0).mono ?_
  rintro e w1 ⟨rfl, E1⟩
  have HE0 := hide (E0.trans E1)
  replace HB0 := hide (E1.kept (unhide HB0))
  replace HBK := hide (E1.kept (unhide HBK))
  replace HB1 := hide (E1.kept (unhide HB1))
  have z1 := E1.size
  clear E0 E1 H1
  have HMc := hide ((unhide HMv) w1 (unhide HE0))
  have k0 : w1.cell? ⟨w.heap.size + 1, 0, none⟩ = some (.int .i64 kd) := cells_of (unhide HBK) 0 _ rfl
  clear HMv HBK
  go_wp2_with (first
    | (refine wpList_load_blk rfl 46 _ rfl (w.heap.size) rfl _ _ _ _ (unhide HB0) Tryd.underlying46 rfl infoL ?_))
  refine (unhide HMc).mono ?_
  rintro e w5 ⟨⟨v5, rfl, hO⟩, E5⟩
  obtain ⟨ua, uc, rfl⟩ : ∃ ua uc, v5 = .slice ua o.un.length uc := by
    obtain ⟨x, y, e, _⟩ := hO.reads
    exact ⟨x, y, e⟩
  have HO := hide hO
  replace HB1 := hide (E5.kept (unhide HB1))
  replace HE0 := hide ((unhide HE0).trans E5)
  have HN := hide (heap_alloc_new w5 (.cells #[.string { data := #[] }, .string { data := #[] }, .string { data := #[] }, .slice none 0 0] 46))
  have hz5 : w.heap.size + 2 < w5.heap.size := lt_of_block (unhide HB1)
  clear HMc E5 hO HB0 k0
  go_wp2_with (first
    | (refine wpList_store_blk rfl 46 _ _ rfl rfl (w5.heap.size) rfl _ _ _ rfl (unhide HN) infoL rfl (by simp [Value.oneCell']) ?_; intro U hB hU; have hU1 := hU.ext ((Ext.refl w5).alloc _) (fun q hq => by omega); have HBU := hide hB; replace HB1 := hide (hU1.kept (unhide HB1)); replace HO := hide ((unhide HO).ext hU1); replace HE0 := hide ((unhide HE0).trans hU1); clear hB hU hU1)
    | (refine wpList_load_blk rfl 46 _ rfl (w5.heap.size) rfl _ _ _ _ (unhide HBU) Tryd.underlying46 rfl infoL ?_)
    | (refine wpList_store_blk rfl 46 _ _ rfl rfl (w.heap.size + 2) rfl _ _ _ rfl (unhide HB1) infoL rfl (by simp [Value.oneCell']) ?_; intro Z hy hf9; have HY := hide hy; have FY := hide hf9; clear hy hf9))
  have v0 : Z.cell? ⟨w.heap.size + 2, 0, none⟩ = some (.string o.a) := cells_of (unhide HY) 0 _ rfl
  have v1 : Z.cell? ⟨w.heap.size + 2, 1, none⟩ = some (.string o.b) := cells_of (unhide HY) 1 _ rfl
  have v2 : Z.cell? ⟨w.heap.size + 2, 2, none⟩ = some (.string o.c) := cells_of (unhide HY) 2 _ rfl
  have v3 : Z.cell? ⟨w.heap.size + 2, 3, none⟩ = some (.slice ua o.un.length uc) := cells_of (unhide HY) 3 _ rfl
  exact bodyPost_ret (v := .tuple #[.agg #[.string o.a, .string o.b, .string o.c, .slice ua o.un.length uc], .int .i64 o.d]) (by simp [results, Tryd.results111, go_sem, v0, v1, v2, v3]) rfl ⟨⟨_, rfl, ((unhide HO).fr (unhide FY) (fun g hg e9 => by have := ((unhide HO).lt g hg).1; omega)).mono (by omega)⟩, (unhide FY).ext (unhide HE0) (fun q hq => by omega)⟩
end Go.Proofs.YtbieoijeilhadaaDoor

namespace Go.Proofs.YtbieoijeilhadaaDoor
open Go.RowKit
set_option maxRecDepth 10000 in
set_option maxHeartbeats 8000000 in
theorem specEdit_1 (a b c : ByteArray) (v : Value) (un : List (ByteArray × ByteArray)) (ra : Option Addr) (rn rc : Nat) (w : World) (hv : LnAt w v un) (ha : a.size ≤ 1048576) (hb : b.size ≤ 1048576) (hc : c.size ≤ 1048576) (_hn : un.length ≤ 1048576) (hx : ∀ j, j < un.length → (lnT un j).size ≤ 1048576 ∧ (lnH un j).size ≤ 1048576) (hP : LineP a b c un.length (lnT un) (lnH un)) (o : LD) (HM : ∀ W u, Ext w W → LnAt W u un → Calls Tryd.prog 124 #[.agg #[.string a, .string b, .string c, u], .int .i64 1] W fun e w' => e = .returned (.tuple #[.agg #[.string a, .string b, .string c, u], .int .i64 (-1)]) ∧ Ext W w') (HF : ∀ W u, Ext w W → LnAt W u un → Calls Tryd.prog 125 #[.agg #[.string a, .string b, .string c, u], .slice ra rn rc] W fun e w' => LnO w' W.heap.size o e ∧ Ext W w') :
    Calls Tryd.prog 111 #[.agg #[.string a, .string b, .string c, v], .agg #[.int .i64 1, .slice ra rn rc]] w fun e w' => LnO w' w.heap.size o e ∧ Ext w w' := by
  have infoL : (Tryd.prog.info? 46).map (·.size) = some 4 := by kernel_rfl
  obtain ⟨ao, ca, rfl, _, _⟩ := id hv
  have H1 := hide (fun W (E : Ext w W) => specLineOk_all a b c ao un.length ca (lnT un) (lnH un) W (Row2At.ext hv E) ha hb hc hx true (by simp [hP]))
  have HMv := hide (fun W (E : Ext w W) => HM W _ E (hv.ext E))
  have HFv := hide (fun W (E : Ext w W) => HF W _ E (hv.ext E))
  clear hP hv hx HM HF
  obtain ⟨V, hV⟩ : ∃ V, V = ((w.alloc (.cells #[.string a, .string b, .string c, .slice ao un.length ca] 46)).alloc (.cells #[.int .i64 1, .slice ra rn rc] 67)).alloc (.cells #[.string { data := #[] }, .string { data := #[] }, .string { data := #[] }, .slice none 0 0] 46) := ⟨_, rfl⟩
  have E0 : Ext w V := by rw [hV]; exact (((Ext.refl w).alloc _).alloc _).alloc _
  have HB0 : Hid (V.heap[w.heap.size]? = some (.cells #[.string a, .string b, .string c, .slice ao un.length ca] 46 (0, 0))) := hide (by rw [hV]; exact (((Ext.refl _).alloc _).alloc _).kept (new_block w _))
  have HBK : Hid (V.heap[w.heap.size + 1]? = some (.cells #[.int .i64 1, .slice ra rn rc] 67 (0, 0))) := hide (by rw [hV]; have h := new_block (w.alloc (.cells #[.string a, .string b, .string c, .slice ao un.length ca] 46)) (.cells #[.int .i64 1, .slice ra rn rc] 67); rw [show (w.alloc (.cells #[.string a, .string b, .string c, .slice ao un.length ca] 46)).heap.size = w.heap.size + 1 by simp] at h; exact ((Ext.refl _).alloc _).kept h)
  have HB1 : Hid (V.heap[w.heap.size + 2]? = some (.cells #[.string { data := #[] }, .string { data := #[] }, .string { data := #[] }, .slice none 0 0] 46 (0, 0))) := hide (by rw [hV]; have h := new_block ((w.alloc (.cells #[.string a, .string b, .string c, .slice ao un.length ca] 46)).alloc (.cells #[.int .i64 1, .slice ra rn rc] 67)) (.cells #[.string { data := #[] }, .string { data := #[] }, .string { data := #[] }, .slice none 0 0] 46); rw [show ((w.alloc (.cells #[.string a, .string b, .string c, .slice ao un.length ca] 46)).alloc (.cells #[.int .i64 1, .slice ra rn rc] 67)).heap.size = w.heap.size + 2 by simp] at h; exact h)
  have sz0 : w.heap.size + 2 < V.heap.size := lt_of_block (unhide HB1)
  have HW := hide hV
  clear hV
  go_enter Tryd.func111, Tryd.ntmps111
  go_wp2_with fail
  rw [← unhide HW]
  clear HW
  refine ((unhide H1) _ E0).mono ?_
  rintro e w1 ⟨rfl, E1⟩
  have HE0 := hide (E0.trans E1)
  replace HB0 := hide (E1.kept (unhide HB0))
  replace HBK := hide (E1.kept (unhide HBK))
  replace HB1 := hide (E1.kept (unhide HB1))
  have z1 := E1.size
  clear E0 E1 H1
  have HMc := hide ((unhide HMv) w1 (unhide HE0))
  have k0 : w1.cell? ⟨w.heap.size + 1, 0, none⟩ = some (.int .i64 1) := cells_of (unhide HBK) 0 _ rfl
  clear HMv
  go_wp2_with (first
    | (refine wpList_load_blk rfl 46 _ rfl (w.heap.size) rfl _ _ _ _ (unhide HB0) Tryd.underlying46 rfl infoL ?_))
  refine (unhide HMc).mono ?_
  rintro e w5 ⟨rfl, E5⟩
  replace HB0 := hide (E5.kept (unhide HB0))
  replace HBK := hide (E5.kept (unhide HBK))
  replace HB1 := hide (E5.kept (unhide HB1))
  replace HE0 := hide ((unhide HE0).trans E5)
  have HN := hide (heap_alloc_new w5 (.cells #[.string { data := #[] }, .string { data := #[] }, .string { data := #[] }, .slice none 0 0] 46))
  have hz5 : w.heap.size + 2 < w5.heap.size := lt_of_block (unhide HB1)
  clear HMc E5 k0
  go_wp2_with (first
    | (refine wpList_store_blk rfl 46 _ _ rfl rfl (w5.heap.size) rfl _ _ _ rfl (unhide HN) infoL rfl (by simp [Value.oneCell']) ?_; intro U hB hU; have hU1 := hU.ext ((Ext.refl w5).alloc _) (fun q hq => by omega); replace HB0 := hide (hU1.kept (unhide HB0)); replace HBK := hide (hU1.kept (unhide HBK)); replace HB1 := hide (hU1.kept (unhide HB1)); replace HE0 := hide ((unhide HE0).trans hU1); have c0 : U.cell? ⟨w.heap.size, 0, none⟩ = some (.string a) := cells_of (unhide HB0) 0 _ rfl; have c1 : U.cell? ⟨w.heap.size, 1, none⟩ = some (.string b) := cells_of (unhide HB0) 1 _ rfl; have k0 : U.cell? ⟨w.heap.size + 1, 0, none⟩ = some (.int .i64 1) := cells_of (unhide HBK) 0 _ rfl; have k1 : U.cell? ⟨w.heap.size + 1, 1, none⟩ = some (.slice ra rn rc) := cells_of (unhide HBK) 1 _ rfl; have zU := hU1.size; clear hB hU hU1)
    | (refine wpList_load_blk rfl 46 _ rfl (w.heap.size) rfl _ _ _ _ (unhide HB0) Tryd.underlying46 rfl infoL ?_))
  refine ((unhide HFv) U (unhide HE0)).mono ?_
  rintro e w6 ⟨⟨v6, rfl, hO⟩, E6⟩
  obtain ⟨ua, uc, rfl⟩ : ∃ ua uc, v6 = .slice ua o.un.length uc := by
    obtain ⟨x, y, e, _⟩ := hO.reads
    exact ⟨x, y, e⟩
  have HO := hide hO
  replace HB1 := hide (E6.kept (unhide HB1))
  replace HE0 := hide ((unhide HE0).trans E6)
  clear hO E6 HB0 c0 c1 k0 k1 HFv
  go_wp2_with (first
    | (refine wpList_store_blk rfl 46 _ _ rfl rfl (w.heap.size + 2) rfl _ _ _ rfl (unhide HB1) infoL rfl (by simp [Value.oneCell']) ?_; intro Z hy hf9; have HY := hide hy; have FY := hide hf9; clear hy hf9))
  have v0 : Z.cell? ⟨w.heap.size + 2, 0, none⟩ = some (.string o.a) := cells_of (unhide HY) 0 _ rfl
  have v1 : Z.cell? ⟨w.heap.size + 2, 1, none⟩ = some (.string o.b) := cells_of (unhide HY) 1 _ rfl
  have v2 : Z.cell? ⟨w.heap.size + 2, 2, none⟩ = some (.string o.c) := cells_of (unhide HY) 2 _ rfl
  have v3 : Z.cell? ⟨w.heap.size + 2, 3, none⟩ = some (.slice ua o.un.length uc) := cells_of (unhide HY) 3 _ rfl
  exact bodyPost_ret (v := .tuple #[.agg #[.string o.a, .string o.b, .string o.c, .slice ua o.un.length uc], .int .i64 o.d]) (by simp [results, Tryd.results111, go_sem, v0, v1, v2, v3]) rfl ⟨⟨_, rfl, ((unhide HO).fr (unhide FY) (fun g hg e9 => by have := ((unhide HO).lt g hg).1; omega)).mono (by omega)⟩, (unhide FY).ext (unhide HE0) (fun q hq => by omega)⟩
set_option maxRecDepth 10000 in
set_option maxHeartbeats 8000000 in
theorem specEdit_2 (a b c : ByteArray) (v : Value) (un : List (ByteArray × ByteArray)) (ra : Option Addr) (rn rc : Nat) (w : World) (hv : LnAt w v un) (ha : a.size ≤ 1048576) (hb : b.size ≤ 1048576) (hc : c.size ≤ 1048576) (_hn : un.length ≤ 1048576) (hx : ∀ j, j < un.length → (lnT un j).size ≤ 1048576 ∧ (lnH un j).size ≤ 1048576) (hP : LineP a b c un.length (lnT un) (lnH un)) (o : LD) (HM : ∀ W u, Ext w W → LnAt W u un → Calls Tryd.prog 124 #[.agg #[.string a, .string b, .string c, u], .int .i64 2] W fun e w' => e = .returned (.tuple #[.agg #[.string a, .string b, .string c, u], .int .i64 (-1)]) ∧ Ext W w') (HF : ∀ W u, Ext w W → LnAt W u un → Calls Tryd.prog 125 #[.agg #[.string a, .string b, .string c, u], .slice ra rn rc] W fun e w' => LnO w' W.heap.size o e ∧ Ext W w') :
    Calls Tryd.prog 111 #[.agg #[.string a, .string b, .string c, v], .agg #[.int .i64 2, .slice ra rn rc]] w fun e w' => LnO w' w.heap.size o e ∧ Ext w w' := by
  have infoL : (Tryd.prog.info? 46).map (·.size) = some 4 := by kernel_rfl
  obtain ⟨ao, ca, rfl, _, _⟩ := id hv
  have H1 := hide (fun W (E : Ext w W) => specLineOk_all a b c ao un.length ca (lnT un) (lnH un) W (Row2At.ext hv E) ha hb hc hx true (by simp [hP]))
  have HMv := hide (fun W (E : Ext w W) => HM W _ E (hv.ext E))
  have HFv := hide (fun W (E : Ext w W) => HF W _ E (hv.ext E))
  clear hP hv hx HM HF
  obtain ⟨V, hV⟩ : ∃ V, V = ((w.alloc (.cells #[.string a, .string b, .string c, .slice ao un.length ca] 46)).alloc (.cells #[.int .i64 2, .slice ra rn rc] 67)).alloc (.cells #[.string { data := #[] }, .string { data := #[] }, .string { data := #[] }, .slice none 0 0] 46) := ⟨_, rfl⟩
  have E0 : Ext w V := by rw [hV]; exact (((Ext.refl w).alloc _).alloc _).alloc _
  have HB0 : Hid (V.heap[w.heap.size]? = some (.cells #[.string a, .string b, .string c, .slice ao un.length ca] 46 (0, 0))) := hide (by rw [hV]; exact (((Ext.refl _).alloc _).alloc _).kept (new_block w _))
  have HBK : Hid (V.heap[w.heap.size + 1]? = some (.cells #[.int .i64 2, .slice ra rn rc] 67 (0, 0))) := hide (by rw [hV]; have h := new_block (w.alloc (.cells #[.string a, .string b, .string c, .slice ao un.length ca] 46)) (.cells #[.int .i64 2, .slice ra rn rc] 67); rw [show (w.alloc (.cells #[.string a, .string b, .string c, .slice ao un.length ca] 46)).heap.size = w.heap.size + 1 by simp] at h; exact ((Ext.refl _).alloc _).kept h)
  have HB1 : Hid (V.heap[w.heap.size + 2]? = some (.cells #[.string { data := #[] }, .string { data := #[] }, .string { data := #[] }, .slice none 0 0] 46 (0, 0))) := hide (by rw [hV]; have h := new_block ((w.alloc (.cells #[.string a, .string b, .string c, .slice ao un.length ca] 46)).alloc (.cells #[.int .i64 2, .slice ra rn rc] 67)) (.cells #[.string { data := #[] }, .string { data := #[] }, .string { data := #[] }, .slice none 0 0] 46); rw [show ((w.alloc (.cells #[.string a, .string b, .string c, .slice ao un.length ca] 46)).alloc (.cells #[.int .i64 2, .slice ra rn rc] 67)).heap.size = w.heap.size + 2 by simp] at h; exact h)
  have sz0 : w.heap.size + 2 < V.heap.size := lt_of_block (unhide HB1)
  have HW := hide hV
  clear hV
  go_enter Tryd.func111, Tryd.ntmps111
  go_wp2_with fail
  rw [← unhide HW]
  clear HW
  refine ((unhide H1) _ E0).mono ?_
  rintro e w1 ⟨rfl, E1⟩
  have HE0 := hide (E0.trans E1)
  replace HB0 := hide (E1.kept (unhide HB0))
  replace HBK := hide (E1.kept (unhide HBK))
  replace HB1 := hide (E1.kept (unhide HB1))
  have z1 := E1.size
  clear E0 E1 H1
  have HMc := hide ((unhide HMv) w1 (unhide HE0))
  have k0 : w1.cell? ⟨w.heap.size + 1, 0, none⟩ = some (.int .i64 2) := cells_of (unhide HBK) 0 _ rfl
  clear HMv
  go_wp2_with (first
    | (refine wpList_load_blk rfl 46 _ rfl (w.heap.size) rfl _ _ _ _ (unhide HB0) Tryd.underlying46 rfl infoL ?_))
  refine (unhide HMc).mono ?_
  rintro e w5 ⟨rfl, E5⟩
  replace HB0 := hide (E5.kept (unhide HB0))
  replace HBK := hide (E5.kept (unhide HBK))
  replace HB1 := hide (E5.kept (unhide HB1))
  replace HE0 := hide ((unhide HE0).trans E5)
  have HN := hide (heap_alloc_new w5 (.cells #[.string { data := #[] }, .string { data := #[] }, .string { data := #[] }, .slice none 0 0] 46))
  have hz5 : w.heap.size + 2 < w5.heap.size := lt_of_block (unhide HB1)
  clear HMc E5 k0
  go_wp2_with (first
    | (refine wpList_store_blk rfl 46 _ _ rfl rfl (w5.heap.size) rfl _ _ _ rfl (unhide HN) infoL rfl (by simp [Value.oneCell']) ?_; intro U hB hU; have hU1 := hU.ext ((Ext.refl w5).alloc _) (fun q hq => by omega); replace HB0 := hide (hU1.kept (unhide HB0)); replace HBK := hide (hU1.kept (unhide HBK)); replace HB1 := hide (hU1.kept (unhide HB1)); replace HE0 := hide ((unhide HE0).trans hU1); have c0 : U.cell? ⟨w.heap.size, 0, none⟩ = some (.string a) := cells_of (unhide HB0) 0 _ rfl; have c1 : U.cell? ⟨w.heap.size, 1, none⟩ = some (.string b) := cells_of (unhide HB0) 1 _ rfl; have k0 : U.cell? ⟨w.heap.size + 1, 0, none⟩ = some (.int .i64 2) := cells_of (unhide HBK) 0 _ rfl; have k1 : U.cell? ⟨w.heap.size + 1, 1, none⟩ = some (.slice ra rn rc) := cells_of (unhide HBK) 1 _ rfl; have zU := hU1.size; clear hB hU hU1)
    | (refine wpList_load_blk rfl 46 _ rfl (w.heap.size) rfl _ _ _ _ (unhide HB0) Tryd.underlying46 rfl infoL ?_))
  refine ((unhide HFv) U (unhide HE0)).mono ?_
  rintro e w6 ⟨⟨v6, rfl, hO⟩, E6⟩
  obtain ⟨ua, uc, rfl⟩ : ∃ ua uc, v6 = .slice ua o.un.length uc := by
    obtain ⟨x, y, e, _⟩ := hO.reads
    exact ⟨x, y, e⟩
  have HO := hide hO
  replace HB1 := hide (E6.kept (unhide HB1))
  replace HE0 := hide ((unhide HE0).trans E6)
  clear hO E6 HB0 c0 c1 k0 k1 HFv
  go_wp2_with (first
    | (refine wpList_store_blk rfl 46 _ _ rfl rfl (w.heap.size + 2) rfl _ _ _ rfl (unhide HB1) infoL rfl (by simp [Value.oneCell']) ?_; intro Z hy hf9; have HY := hide hy; have FY := hide hf9; clear hy hf9))
  have v0 : Z.cell? ⟨w.heap.size + 2, 0, none⟩ = some (.string o.a) := cells_of (unhide HY) 0 _ rfl
  have v1 : Z.cell? ⟨w.heap.size + 2, 1, none⟩ = some (.string o.b) := cells_of (unhide HY) 1 _ rfl
  have v2 : Z.cell? ⟨w.heap.size + 2, 2, none⟩ = some (.string o.c) := cells_of (unhide HY) 2 _ rfl
  have v3 : Z.cell? ⟨w.heap.size + 2, 3, none⟩ = some (.slice ua o.un.length uc) := cells_of (unhide HY) 3 _ rfl
  exact bodyPost_ret (v := .tuple #[.agg #[.string o.a, .string o.b, .string o.c, .slice ua o.un.length uc], .int .i64 o.d]) (by simp [results, Tryd.results111, go_sem, v0, v1, v2, v3]) rfl ⟨⟨_, rfl, ((unhide HO).fr (unhide FY) (fun g hg e9 => by have := ((unhide HO).lt g hg).1; omega)).mono (by omega)⟩, (unhide FY).ext (unhide HE0) (fun q hq => by omega)⟩
set_option maxRecDepth 10000 in
set_option maxHeartbeats 8000000 in
theorem specEdit_4 (a b c : ByteArray) (v : Value) (un : List (ByteArray × ByteArray)) (ra : Option Addr) (rn rc : Nat) (w : World) (hv : LnAt w v un) (ha : a.size ≤ 1048576) (hb : b.size ≤ 1048576) (hc : c.size ≤ 1048576) (_hn : un.length ≤ 1048576) (hx : ∀ j, j < un.length → (lnT un j).size ≤ 1048576 ∧ (lnH un j).size ≤ 1048576) (hP : LineP a b c un.length (lnT un) (lnH un)) (o : LD) (HM : ∀ W u, Ext w W → LnAt W u un → Calls Tryd.prog 124 #[.agg #[.string a, .string b, .string c, u], .int .i64 4] W fun e w' => e = .returned (.tuple #[.agg #[.string a, .string b, .string c, u], .int .i64 (-1)]) ∧ Ext W w') (HF : ∀ W u, Ext w W → LnAt W u un → Calls Tryd.prog 126 #[.agg #[.string a, .string b, .string c, u], .int .i64 4] W fun e w' => LnO w' W.heap.size o e ∧ Ext W w') :
    Calls Tryd.prog 111 #[.agg #[.string a, .string b, .string c, v], .agg #[.int .i64 4, .slice ra rn rc]] w fun e w' => LnO w' w.heap.size o e ∧ Ext w w' := by
  have infoL : (Tryd.prog.info? 46).map (·.size) = some 4 := by kernel_rfl
  obtain ⟨ao, ca, rfl, _, _⟩ := id hv
  have H1 := hide (fun W (E : Ext w W) => specLineOk_all a b c ao un.length ca (lnT un) (lnH un) W (Row2At.ext hv E) ha hb hc hx true (by simp [hP]))
  have HMv := hide (fun W (E : Ext w W) => HM W _ E (hv.ext E))
  have HFv := hide (fun W (E : Ext w W) => HF W _ E (hv.ext E))
  clear hP hv hx HM HF
  obtain ⟨V, hV⟩ : ∃ V, V = ((w.alloc (.cells #[.string a, .string b, .string c, .slice ao un.length ca] 46)).alloc (.cells #[.int .i64 4, .slice ra rn rc] 67)).alloc (.cells #[.string { data := #[] }, .string { data := #[] }, .string { data := #[] }, .slice none 0 0] 46) := ⟨_, rfl⟩
  have E0 : Ext w V := by rw [hV]; exact (((Ext.refl w).alloc _).alloc _).alloc _
  have HB0 : Hid (V.heap[w.heap.size]? = some (.cells #[.string a, .string b, .string c, .slice ao un.length ca] 46 (0, 0))) := hide (by rw [hV]; exact (((Ext.refl _).alloc _).alloc _).kept (new_block w _))
  have HBK : Hid (V.heap[w.heap.size + 1]? = some (.cells #[.int .i64 4, .slice ra rn rc] 67 (0, 0))) := hide (by rw [hV]; have h := new_block (w.alloc (.cells #[.string a, .string b, .string c, .slice ao un.length ca] 46)) (.cells #[.int .i64 4, .slice ra rn rc] 67); rw [show (w.alloc (.cells #[.string a, .string b, .string c, .slice ao un.length ca] 46)).heap.size = w.heap.size + 1 by simp] at h; exact ((Ext.refl _).alloc _).kept h)
  have HB1 : Hid (V.heap[w.heap.size + 2]? = some (.cells #[.string { data := #[] }, .string { data := #[] }, .string { data := #[] }, .slice none 0 0] 46 (0, 0))) := hide (by rw [hV]; have h := new_block ((w.alloc (.cells #[.string a, .string b, .string c, .slice ao un.length ca] 46)).alloc (.cells #[.int .i64 4, .slice ra rn rc] 67)) (.cells #[.string { data := #[] }, .string { data := #[] }, .string { data := #[] }, .slice none 0 0] 46); rw [show ((w.alloc (.cells #[.string a, .string b, .string c, .slice ao un.length ca] 46)).alloc (.cells #[.int .i64 4, .slice ra rn rc] 67)).heap.size = w.heap.size + 2 by simp] at h; exact h)
  have sz0 : w.heap.size + 2 < V.heap.size := lt_of_block (unhide HB1)
  have HW := hide hV
  clear hV
  go_enter Tryd.func111, Tryd.ntmps111
  go_wp2_with fail
  rw [← unhide HW]
  clear HW
  refine ((unhide H1) _ E0).mono ?_
  rintro e w1 ⟨rfl, E1⟩
  have HE0 := hide (E0.trans E1)
  replace HB0 := hide (E1.kept (unhide HB0))
  replace HBK := hide (E1.kept (unhide HBK))
  replace HB1 := hide (E1.kept (unhide HB1))
  have z1 := E1.size
  clear E0 E1 H1
  have HMc := hide ((unhide HMv) w1 (unhide HE0))
  have k0 : w1.cell? ⟨w.heap.size + 1, 0, none⟩ = some (.int .i64 4) := cells_of (unhide HBK) 0 _ rfl
  clear HMv
  go_wp2_with (first
    | (refine wpList_load_blk rfl 46 _ rfl (w.heap.size) rfl _ _ _ _ (unhide HB0) Tryd.underlying46 rfl infoL ?_))
  refine (unhide HMc).mono ?_
  rintro e w5 ⟨rfl, E5⟩
  replace HB0 := hide (E5.kept (unhide HB0))
  replace HBK := hide (E5.kept (unhide HBK))
  replace HB1 := hide (E5.kept (unhide HB1))
  replace HE0 := hide ((unhide HE0).trans E5)
  have HN := hide (heap_alloc_new w5 (.cells #[.string { data := #[] }, .string { data := #[] }, .string { data := #[] }, .slice none 0 0] 46))
  have hz5 : w.heap.size + 2 < w5.heap.size := lt_of_block (unhide HB1)
  clear HMc E5 k0
  go_wp2_with (first
    | (refine wpList_store_blk rfl 46 _ _ rfl rfl (w5.heap.size) rfl _ _ _ rfl (unhide HN) infoL rfl (by simp [Value.oneCell']) ?_; intro U hB hU; have hU1 := hU.ext ((Ext.refl w5).alloc _) (fun q hq => by omega); replace HB0 := hide (hU1.kept (unhide HB0)); replace HBK := hide (hU1.kept (unhide HBK)); replace HB1 := hide (hU1.kept (unhide HB1)); replace HE0 := hide ((unhide HE0).trans hU1); have c0 : U.cell? ⟨w.heap.size, 0, none⟩ = some (.string a) := cells_of (unhide HB0) 0 _ rfl; have c1 : U.cell? ⟨w.heap.size, 1, none⟩ = some (.string b) := cells_of (unhide HB0) 1 _ rfl; have k0 : U.cell? ⟨w.heap.size + 1, 0, none⟩ = some (.int .i64 4) := cells_of (unhide HBK) 0 _ rfl; have k1 : U.cell? ⟨w.heap.size + 1, 1, none⟩ = some (.slice ra rn rc) := cells_of (unhide HBK) 1 _ rfl; have zU := hU1.size; clear hB hU hU1)
    | (refine wpList_load_blk rfl 46 _ rfl (w.heap.size) rfl _ _ _ _ (unhide HB0) Tryd.underlying46 rfl infoL ?_))
  refine ((unhide HFv) U (unhide HE0)).mono ?_
  rintro e w6 ⟨⟨v6, rfl, hO⟩, E6⟩
  obtain ⟨ua, uc, rfl⟩ : ∃ ua uc, v6 = .slice ua o.un.length uc := by
    obtain ⟨x, y, e, _⟩ := hO.reads
    exact ⟨x, y, e⟩
  have HO := hide hO
  replace HB1 := hide (E6.kept (unhide HB1))
  replace HE0 := hide ((unhide HE0).trans E6)
  clear hO E6 HB0 c0 c1 k0 k1 HFv
  go_wp2_with (first
    | (refine wpList_store_blk rfl 46 _ _ rfl rfl (w.heap.size + 2) rfl _ _ _ rfl (unhide HB1) infoL rfl (by simp [Value.oneCell']) ?_; intro Z hy hf9; have HY := hide hy; have FY := hide hf9; clear hy hf9))
  have v0 : Z.cell? ⟨w.heap.size + 2, 0, none⟩ = some (.string o.a) := cells_of (unhide HY) 0 _ rfl
  have v1 : Z.cell? ⟨w.heap.size + 2, 1, none⟩ = some (.string o.b) := cells_of (unhide HY) 1 _ rfl
  have v2 : Z.cell? ⟨w.heap.size + 2, 2, none⟩ = some (.string o.c) := cells_of (unhide HY) 2 _ rfl
  have v3 : Z.cell? ⟨w.heap.size + 2, 3, none⟩ = some (.slice ua o.un.length uc) := cells_of (unhide HY) 3 _ rfl
  exact bodyPost_ret (v := .tuple #[.agg #[.string o.a, .string o.b, .string o.c, .slice ua o.un.length uc], .int .i64 o.d]) (by simp [results, Tryd.results111, go_sem, v0, v1, v2, v3]) rfl ⟨⟨_, rfl, ((unhide HO).fr (unhide FY) (fun g hg e9 => by have := ((unhide HO).lt g hg).1; omega)).mono (by omega)⟩, (unhide FY).ext (unhide HE0) (fun q hq => by omega)⟩
set_option maxRecDepth 10000 in
set_option maxHeartbeats 8000000 in
theorem specEdit_5 (a b c : ByteArray) (v : Value) (un : List (ByteArray × ByteArray)) (ra : Option Addr) (rn rc : Nat) (w : World) (hv : LnAt w v un) (ha : a.size ≤ 1048576) (hb : b.size ≤ 1048576) (hc : c.size ≤ 1048576) (_hn : un.length ≤ 1048576) (hx : ∀ j, j < un.length → (lnT un j).size ≤ 1048576 ∧ (lnH un j).size ≤ 1048576) (hP : LineP a b c un.length (lnT un) (lnH un)) (o : LD) (HM : ∀ W u, Ext w W → LnAt W u un → Calls Tryd.prog 124 #[.agg #[.string a, .string b, .string c, u], .int .i64 5] W fun e w' => e = .returned (.tuple #[.agg #[.string a, .string b, .string c, u], .int .i64 (-1)]) ∧ Ext W w') (HF : ∀ W u, Ext w W → LnAt W u un → Calls Tryd.prog 126 #[.agg #[.string a, .string b, .string c, u], .int .i64 5] W fun e w' => LnO w' W.heap.size o e ∧ Ext W w') :
    Calls Tryd.prog 111 #[.agg #[.string a, .string b, .string c, v], .agg #[.int .i64 5, .slice ra rn rc]] w fun e w' => LnO w' w.heap.size o e ∧ Ext w w' := by
  have infoL : (Tryd.prog.info? 46).map (·.size) = some 4 := by kernel_rfl
  obtain ⟨ao, ca, rfl, _, _⟩ := id hv
  have H1 := hide (fun W (E : Ext w W) => specLineOk_all a b c ao un.length ca (lnT un) (lnH un) W (Row2At.ext hv E) ha hb hc hx true (by simp [hP]))
  have HMv := hide (fun W (E : Ext w W) => HM W _ E (hv.ext E))
  have HFv := hide (fun W (E : Ext w W) => HF W _ E (hv.ext E))
  clear hP hv hx HM HF
  obtain ⟨V, hV⟩ : ∃ V, V = ((w.alloc (.cells #[.string a, .string b, .string c, .slice ao un.length ca] 46)).alloc (.cells #[.int .i64 5, .slice ra rn rc] 67)).alloc (.cells #[.string { data := #[] }, .string { data := #[] }, .string { data := #[] }, .slice none 0 0] 46) := ⟨_, rfl⟩
  have E0 : Ext w V := by rw [hV]; exact (((Ext.refl w).alloc _).alloc _).alloc _
  have HB0 : Hid (V.heap[w.heap.size]? = some (.cells #[.string a, .string b, .string c, .slice ao un.length ca] 46 (0, 0))) := hide (by rw [hV]; exact (((Ext.refl _).alloc _).alloc _).kept (new_block w _))
  have HBK : Hid (V.heap[w.heap.size + 1]? = some (.cells #[.int .i64 5, .slice ra rn rc] 67 (0, 0))) := hide (by rw [hV]; have h := new_block (w.alloc (.cells #[.string a, .string b, .string c, .slice ao un.length ca] 46)) (.cells #[.int .i64 5, .slice ra rn rc] 67); rw [show (w.alloc (.cells #[.string a, .string b, .string c, .slice ao un.length ca] 46)).heap.size = w.heap.size + 1 by simp] at h; exact ((Ext.refl _).alloc _).kept h)
  have HB1 : Hid (V.heap[w.heap.size + 2]? = some (.cells #[.string { data := #[] }, .string { data := #[] }, .string { data := #[] }, .slice none 0 0] 46 (0, 0))) := hide (by rw [hV]; have h := new_block ((w.alloc (.cells #[.string a, .string b, .string c, .slice ao un.length ca] 46)).alloc (.cells #[.int .i64 5, .slice ra rn rc] 67)) (.cells #[.string { data := #[] }, .string { data := #[] }, .string { data := #[] }, .slice none 0 0] 46); rw [show ((w.alloc (.cells #[.string a, .string b, .string c, .slice ao un.length ca] 46)).alloc (.cells #[.int .i64 5, .slice ra rn rc] 67)).heap.size = w.heap.size + 2 by simp] at h; exact h)
  have sz0 : w.heap.size + 2 < V.heap.size := lt_of_block (unhide HB1)
  have HW := hide hV
  clear hV
  go_enter Tryd.func111, Tryd.ntmps111
  go_wp2_with fail
  rw [← unhide HW]
  clear HW
  refine ((unhide H1) _ E0).mono ?_
  rintro e w1 ⟨rfl, E1⟩
  have HE0 := hide (E0.trans E1)
  replace HB0 := hide (E1.kept (unhide HB0))
  replace HBK := hide (E1.kept (unhide HBK))
  replace HB1 := hide (E1.kept (unhide HB1))
  have z1 := E1.size
  clear E0 E1 H1
  have HMc := hide ((unhide HMv) w1 (unhide HE0))
  have k0 : w1.cell? ⟨w.heap.size + 1, 0, none⟩ = some (.int .i64 5) := cells_of (unhide HBK) 0 _ rfl
  clear HMv
  go_wp2_with (first
    | (refine wpList_load_blk rfl 46 _ rfl (w.heap.size) rfl _ _ _ _ (unhide HB0) Tryd.underlying46 rfl infoL ?_))
  refine (unhide HMc).mono ?_
  rintro e w5 ⟨rfl, E5⟩
  replace HB0 := hide (E5.kept (unhide HB0))
  replace HBK := hide (E5.kept (unhide HBK))
  replace HB1 := hide (E5.kept (unhide HB1))
  replace HE0 := hide ((unhide HE0).trans E5)
  have HN := hide (heap_alloc_new w5 (.cells #[.string { data := #[] }, .string { data := #[] }, .string { data := #[] }, .slice none 0 0] 46))
  have hz5 : w.heap.size + 2 < w5.heap.size := lt_of_block (unhide HB1)
  clear HMc E5 k0
  go_wp2_with (first
    | (refine wpList_store_blk rfl 46 _ _ rfl rfl (w5.heap.size) rfl _ _ _ rfl (unhide HN) infoL rfl (by simp [Value.oneCell']) ?_; intro U hB hU; have hU1 := hU.ext ((Ext.refl w5).alloc _) (fun q hq => by omega); replace HB0 := hide (hU1.kept (unhide HB0)); replace HBK := hide (hU1.kept (unhide HBK)); replace HB1 := hide (hU1.kept (unhide HB1)); replace HE0 := hide ((unhide HE0).trans hU1); have c0 : U.cell? ⟨w.heap.size, 0, none⟩ = some (.string a) := cells_of (unhide HB0) 0 _ rfl; have c1 : U.cell? ⟨w.heap.size, 1, none⟩ = some (.string b) := cells_of (unhide HB0) 1 _ rfl; have k0 : U.cell? ⟨w.heap.size + 1, 0, none⟩ = some (.int .i64 5) := cells_of (unhide HBK) 0 _ rfl; have k1 : U.cell? ⟨w.heap.size + 1, 1, none⟩ = some (.slice ra rn rc) := cells_of (unhide HBK) 1 _ rfl; have zU := hU1.size; clear hB hU hU1)
    | (refine wpList_load_blk rfl 46 _ rfl (w.heap.size) rfl _ _ _ _ (unhide HB0) Tryd.underlying46 rfl infoL ?_))
  refine ((unhide HFv) U (unhide HE0)).mono ?_
  rintro e w6 ⟨⟨v6, rfl, hO⟩, E6⟩
  obtain ⟨ua, uc, rfl⟩ : ∃ ua uc, v6 = .slice ua o.un.length uc := by
    obtain ⟨x, y, e, _⟩ := hO.reads
    exact ⟨x, y, e⟩
  have HO := hide hO
  replace HB1 := hide (E6.kept (unhide HB1))
  replace HE0 := hide ((unhide HE0).trans E6)
  clear hO E6 HB0 c0 c1 k0 k1 HFv
  go_wp2_with (first
    | (refine wpList_store_blk rfl 46 _ _ rfl rfl (w.heap.size + 2) rfl _ _ _ rfl (unhide HB1) infoL rfl (by simp [Value.oneCell']) ?_; intro Z hy hf9; have HY := hide hy; have FY := hide hf9; clear hy hf9))
  have v0 : Z.cell? ⟨w.heap.size + 2, 0, none⟩ = some (.string o.a) := cells_of (unhide HY) 0 _ rfl
  have v1 : Z.cell? ⟨w.heap.size + 2, 1, none⟩ = some (.string o.b) := cells_of (unhide HY) 1 _ rfl
  have v2 : Z.cell? ⟨w.heap.size + 2, 2, none⟩ = some (.string o.c) := cells_of (unhide HY) 2 _ rfl
  have v3 : Z.cell? ⟨w.heap.size + 2, 3, none⟩ = some (.slice ua o.un.length uc) := cells_of (unhide HY) 3 _ rfl
  exact bodyPost_ret (v := .tuple #[.agg #[.string o.a, .string o.b, .string o.c, .slice ua o.un.length uc], .int .i64 o.d]) (by simp [results, Tryd.results111, go_sem, v0, v1, v2, v3]) rfl ⟨⟨_, rfl, ((unhide HO).fr (unhide FY) (fun g hg e9 => by have := ((unhide HO).lt g hg).1; omega)).mono (by omega)⟩, (unhide FY).ext (unhide HE0) (fun q hq => by omega)⟩
end Go.Proofs.YtbieoijeilhadaaDoor

namespace Go.Proofs.YtbieoijeilhadaaDoor
open Go.RowKit
set_option maxRecDepth 10000 in
set_option maxHeartbeats 8000000 in
theorem specEdit_12 (a b c : ByteArray) (v : Value) (un : List (ByteArray × ByteArray)) (ra : Option Addr) (rn rc : Nat) (w : World) (hv : LnAt w v un) (ha : a.size ≤ 1048576) (hb : b.size ≤ 1048576) (hc : c.size ≤ 1048576) (_hn : un.length ≤ 1048576) (hx : ∀ j, j < un.length → (lnT un j).size ≤ 1048576 ∧ (lnH un j).size ≤ 1048576) (hP : LineP a b c un.length (lnT un) (lnH un)) (o : LD) (HM : ∀ W u, Ext w W → LnAt W u un → Calls Tryd.prog 124 #[.agg #[.string a, .string b, .string c, u], .int .i64 12] W fun e w' => e = .returned (.tuple #[.agg #[.string a, .string b, .string c, u], .int .i64 (-1)]) ∧ Ext W w') (HF : ∀ W u, Ext w W → LnAt W u un → Calls Tryd.prog 127 #[.agg #[.string a, .string b, .string c, u], .string b, .string a, .string { data := #[] }] W fun e w' => LnO w' W.heap.size o e ∧ Ext W w') :
    Calls Tryd.prog 111 #[.agg #[.string a, .string b, .string c, v], .agg #[.int .i64 12, .slice ra rn rc]] w fun e w' => LnO w' w.heap.size o e ∧ Ext w w' := by
  have infoL : (Tryd.prog.info? 46).map (·.size) = some 4 := by kernel_rfl
  obtain ⟨ao, ca, rfl, _, _⟩ := id hv
  have H1 := hide (fun W (E : Ext w W) => specLineOk_all a b c ao un.length ca (lnT un) (lnH un) W (Row2At.ext hv E) ha hb hc hx true (by simp [hP]))
  have HMv := hide (fun W (E : Ext w W) => HM W _ E (hv.ext E))
  have HFv := hide (fun W (E : Ext w W) => HF W _ E (hv.ext E))
  clear hP hv hx HM HF
  obtain ⟨V, hV⟩ : ∃ V, V = ((w.alloc (.cells #[.string a, .string b, .string c, .slice ao un.length ca] 46)).alloc (.cells #[.int .i64 12, .slice ra rn rc] 67)).alloc (.cells #[.string { data := #[] }, .string { data := #[] }, .string { data := #[] }, .slice none 0 0] 46) := ⟨_, rfl⟩
  have E0 : Ext w V := by rw [hV]; exact (((Ext.refl w).alloc _).alloc _).alloc _
  have HB0 : Hid (V.heap[w.heap.size]? = some (.cells #[.string a, .string b, .string c, .slice ao un.length ca] 46 (0, 0))) := hide (by rw [hV]; exact (((Ext.refl _).alloc _).alloc _).kept (new_block w _))
  have HBK : Hid (V.heap[w.heap.size + 1]? = some (.cells #[.int .i64 12, .slice ra rn rc] 67 (0, 0))) := hide (by rw [hV]; have h := new_block (w.alloc (.cells #[.string a, .string b, .string c, .slice ao un.length ca] 46)) (.cells #[.int .i64 12, .slice ra rn rc] 67); rw [show (w.alloc (.cells #[.string a, .string b, .string c, .slice ao un.length ca] 46)).heap.size = w.heap.size + 1 by simp] at h; exact ((Ext.refl _).alloc _).kept h)
  have HB1 : Hid (V.heap[w.heap.size + 2]? = some (.cells #[.string { data := #[] }, .string { data := #[] }, .string { data := #[] }, .slice none 0 0] 46 (0, 0))) := hide (by rw [hV]; have h := new_block ((w.alloc (.cells #[.string a, .string b, .string c, .slice ao un.length ca] 46)).alloc (.cells #[.int .i64 12, .slice ra rn rc] 67)) (.cells #[.string { data := #[] }, .string { data := #[] }, .string { data := #[] }, .slice none 0 0] 46); rw [show ((w.alloc (.cells #[.string a, .string b, .string c, .slice ao un.length ca] 46)).alloc (.cells #[.int .i64 12, .slice ra rn rc] 67)).heap.size = w.heap.size + 2 by simp] at h; exact h)
  have sz0 : w.heap.size + 2 < V.heap.size := lt_of_block (unhide HB1)
  have HW := hide hV
  clear hV
  go_enter Tryd.func111, Tryd.ntmps111
  go_wp2_with fail
  rw [← unhide HW]
  clear HW
  refine ((unhide H1) _ E0).mono ?_
  rintro e w1 ⟨rfl, E1⟩
  have HE0 := hide (E0.trans E1)
  replace HB0 := hide (E1.kept (unhide HB0))
  replace HBK := hide (E1.kept (unhide HBK))
  replace HB1 := hide (E1.kept (unhide HB1))
  have z1 := E1.size
  clear E0 E1 H1
  have HMc := hide ((unhide HMv) w1 (unhide HE0))
  have k0 : w1.cell? ⟨w.heap.size + 1, 0, none⟩ = some (.int .i64 12) := cells_of (unhide HBK) 0 _ rfl
  clear HMv
  go_wp2_with (first
    | (refine wpList_load_blk rfl 46 _ rfl (w.heap.size) rfl _ _ _ _ (unhide HB0) Tryd.underlying46 rfl infoL ?_))
  refine (unhide HMc).mono ?_
  rintro e w5 ⟨rfl, E5⟩
  replace HB0 := hide (E5.kept (unhide HB0))
  replace HBK := hide (E5.kept (unhide HBK))
  replace HB1 := hide (E5.kept (unhide HB1))
  replace HE0 := hide ((unhide HE0).trans E5)
  have HN := hide (heap_alloc_new w5 (.cells #[.string { data := #[] }, .string { data := #[] }, .string { data := #[] }, .slice none 0 0] 46))
  have hz5 : w.heap.size + 2 < w5.heap.size := lt_of_block (unhide HB1)
  clear HMc E5 k0
  go_wp2_with (first
    | (refine wpList_store_blk rfl 46 _ _ rfl rfl (w5.heap.size) rfl _ _ _ rfl (unhide HN) infoL rfl (by simp [Value.oneCell']) ?_; intro U hB hU; have hU1 := hU.ext ((Ext.refl w5).alloc _) (fun q hq => by omega); replace HB0 := hide (hU1.kept (unhide HB0)); replace HBK := hide (hU1.kept (unhide HBK)); replace HB1 := hide (hU1.kept (unhide HB1)); replace HE0 := hide ((unhide HE0).trans hU1); have c0 : U.cell? ⟨w.heap.size, 0, none⟩ = some (.string a) := cells_of (unhide HB0) 0 _ rfl; have c1 : U.cell? ⟨w.heap.size, 1, none⟩ = some (.string b) := cells_of (unhide HB0) 1 _ rfl; have k0 : U.cell? ⟨w.heap.size + 1, 0, none⟩ = some (.int .i64 12) := cells_of (unhide HBK) 0 _ rfl; have k1 : U.cell? ⟨w.heap.size + 1, 1, none⟩ = some (.slice ra rn rc) := cells_of (unhide HBK) 1 _ rfl; have zU := hU1.size; clear hB hU hU1)
    | (refine wpList_load_blk rfl 46 _ rfl (w.heap.size) rfl _ _ _ _ (unhide HB0) Tryd.underlying46 rfl infoL ?_))
  refine ((unhide HFv) U (unhide HE0)).mono ?_
  rintro e w6 ⟨⟨v6, rfl, hO⟩, E6⟩
  obtain ⟨ua, uc, rfl⟩ : ∃ ua uc, v6 = .slice ua o.un.length uc := by
    obtain ⟨x, y, e, _⟩ := hO.reads
    exact ⟨x, y, e⟩
  have HO := hide hO
  replace HB1 := hide (E6.kept (unhide HB1))
  replace HE0 := hide ((unhide HE0).trans E6)
  clear hO E6 HB0 c0 c1 k0 k1 HFv
  go_wp2_with (first
    | (refine wpList_store_blk rfl 46 _ _ rfl rfl (w.heap.size + 2) rfl _ _ _ rfl (unhide HB1) infoL rfl (by simp [Value.oneCell']) ?_; intro Z hy hf9; have HY := hide hy; have FY := hide hf9; clear hy hf9))
  have v0 : Z.cell? ⟨w.heap.size + 2, 0, none⟩ = some (.string o.a) := cells_of (unhide HY) 0 _ rfl
  have v1 : Z.cell? ⟨w.heap.size + 2, 1, none⟩ = some (.string o.b) := cells_of (unhide HY) 1 _ rfl
  have v2 : Z.cell? ⟨w.heap.size + 2, 2, none⟩ = some (.string o.c) := cells_of (unhide HY) 2 _ rfl
  have v3 : Z.cell? ⟨w.heap.size + 2, 3, none⟩ = some (.slice ua o.un.length uc) := cells_of (unhide HY) 3 _ rfl
  exact bodyPost_ret (v := .tuple #[.agg #[.string o.a, .string o.b, .string o.c, .slice ua o.un.length uc], .int .i64 o.d]) (by simp [results, Tryd.results111, go_sem, v0, v1, v2, v3]) rfl ⟨⟨_, rfl, ((unhide HO).fr (unhide FY) (fun g hg e9 => by have := ((unhide HO).lt g hg).1; omega)).mono (by omega)⟩, (unhide FY).ext (unhide HE0) (fun q hq => by omega)⟩
set_option maxRecDepth 10000 in
set_option maxHeartbeats 8000000 in
theorem specEdit_13 (a b c : ByteArray) (v : Value) (un : List (ByteArray × ByteArray)) (ra : Option Addr) (rn rc : Nat) (w : World) (hv : LnAt w v un) (ha : a.size ≤ 1048576) (hb : b.size ≤ 1048576) (hc : c.size ≤ 1048576) (_hn : un.length ≤ 1048576) (hx : ∀ j, j < un.length → (lnT un j).size ≤ 1048576 ∧ (lnH un j).size ≤ 1048576) (hP : LineP a b c un.length (lnT un) (lnH un)) (o : LD) (HM : ∀ W u, Ext w W → LnAt W u un → Calls Tryd.prog 124 #[.agg #[.string a, .string b, .string c, u], .int .i64 13] W fun e w' => e = .returned (.tuple #[.agg #[.string a, .string b, .string c, u], .int .i64 (-1)]) ∧ Ext W w') (HF : ∀ W u, Ext w W → LnAt W u un → Calls Tryd.prog 127 #[.agg #[.string a, .string b, .string c, u], .string a, .string { data := #[] }, .string b] W fun e w' => LnO w' W.heap.size o e ∧ Ext W w') :
    Calls Tryd.prog 111 #[.agg #[.string a, .string b, .string c, v], .agg #[.int .i64 13, .slice ra rn rc]] w fun e w' => LnO w' w.heap.size o e ∧ Ext w w' := by
  have infoL : (Tryd.prog.info? 46).map (·.size) = some 4 := by kernel_rfl
  obtain ⟨ao, ca, rfl, _, _⟩ := id hv
  have H1 := hide (fun W (E : Ext w W) => specLineOk_all a b c ao un.length ca (lnT un) (lnH un) W (Row2At.ext hv E) ha hb hc hx true (by simp [hP]))
  have HMv := hide (fun W (E : Ext w W) => HM W _ E (hv.ext E))
  have HFv := hide (fun W (E : Ext w W) => HF W _ E (hv.ext E))
  clear hP hv hx HM HF
  obtain ⟨V, hV⟩ : ∃ V, V = ((w.alloc (.cells #[.string a, .string b, .string c, .slice ao un.length ca] 46)).alloc (.cells #[.int .i64 13, .slice ra rn rc] 67)).alloc (.cells #[.string { data := #[] }, .string { data := #[] }, .string { data := #[] }, .slice none 0 0] 46) := ⟨_, rfl⟩
  have E0 : Ext w V := by rw [hV]; exact (((Ext.refl w).alloc _).alloc _).alloc _
  have HB0 : Hid (V.heap[w.heap.size]? = some (.cells #[.string a, .string b, .string c, .slice ao un.length ca] 46 (0, 0))) := hide (by rw [hV]; exact (((Ext.refl _).alloc _).alloc _).kept (new_block w _))
  have HBK : Hid (V.heap[w.heap.size + 1]? = some (.cells #[.int .i64 13, .slice ra rn rc] 67 (0, 0))) := hide (by rw [hV]; have h := new_block (w.alloc (.cells #[.string a, .string b, .string c, .slice ao un.length ca] 46)) (.cells #[.int .i64 13, .slice ra rn rc] 67); rw [show (w.alloc (.cells #[.string a, .string b, .string c, .slice ao un.length ca] 46)).heap.size = w.heap.size + 1 by simp] at h; exact ((Ext.refl _).alloc _).kept h)
  have HB1 : Hid (V.heap[w.heap.size + 2]? = some (.cells #[.string { data := #[] }, .string { data := #[] }, .string { data := #[] }, .slice none 0 0] 46 (0, 0))) := hide (by rw [hV]; have h := new_block ((w.alloc (.cells #[.string a, .string b, .string c, .slice ao un.length ca] 46)).alloc (.cells #[.int .i64 13, .slice ra rn rc] 67)) (.cells #[.string { data := #[] }, .string { data := #[] }, .string { data := #[] }, .slice none 0 0] 46); rw [show ((w.alloc (.cells #[.string a, .string b, .string c, .slice ao un.length ca] 46)).alloc (.cells #[.int .i64 13, .slice ra rn rc] 67)).heap.size = w.heap.size + 2 by simp] at h; exact h)
  have sz0 : w.heap.size + 2 < V.heap.size := lt_of_block (unhide HB1)
  have HW := hide hV
  clear hV
  go_enter Tryd.func111, Tryd.ntmps111
  go_wp2_with fail
  rw [← unhide HW]
  clear HW
  refine ((unhide H1) _ E0).mono ?_
  rintro e w1 ⟨rfl, E1⟩
  have HE0 := hide (E0.trans E1)
  replace HB0 := hide (E1.kept (unhide HB0))
  replace HBK := hide (E1.kept (unhide HBK))
  replace HB1 := hide (E1.kept (unhide HB1))
  have z1 := E1.size
  clear E0 E1 H1
  have HMc := hide ((unhide HMv) w1 (unhide HE0))
  have k0 : w1.cell? ⟨w.heap.size + 1, 0, none⟩ = some (.int .i64 13) := cells_of (unhide HBK) 0 _ rfl
  clear HMv
  go_wp2_with (first
    | (refine wpList_load_blk rfl 46 _ rfl (w.heap.size) rfl _ _ _ _ (unhide HB0) Tryd.underlying46 rfl infoL ?_))
  refine (unhide HMc).mono ?_
  rintro e w5 ⟨rfl, E5⟩
  replace HB0 := hide (E5.kept (unhide HB0))
  replace HBK := hide (E5.kept (unhide HBK))
  replace HB1 := hide (E5.kept (unhide HB1))
  replace HE0 := hide ((unhide HE0).trans E5)
  have HN := hide (heap_alloc_new w5 (.cells #[.string { data := #[] }, .string { data := #[] }, .string { data := #[] }, .slice none 0 0] 46))
  have hz5 : w.heap.size + 2 < w5.heap.size := lt_of_block (unhide HB1)
  clear HMc E5 k0
  go_wp2_with (first
    | (refine wpList_store_blk rfl 46 _ _ rfl rfl (w5.heap.size) rfl _ _ _ rfl (unhide HN) infoL rfl (by simp [Value.oneCell']) ?_; intro U hB hU; have hU1 := hU.ext ((Ext.refl w5).alloc _) (fun q hq => by omega); replace HB0 := hide (hU1.kept (unhide HB0)); replace HBK := hide (hU1.kept (unhide HBK)); replace HB1 := hide (hU1.kept (unhide HB1)); replace HE0 := hide ((unhide HE0).trans hU1); have c0 : U.cell? ⟨w.heap.size, 0, none⟩ = some (.string a) := cells_of (unhide HB0) 0 _ rfl; have c1 : U.cell? ⟨w.heap.size, 1, none⟩ = some (.string b) := cells_of (unhide HB0) 1 _ rfl; have k0 : U.cell? ⟨w.heap.size + 1, 0, none⟩ = some (.int .i64 13) := cells_of (unhide HBK) 0 _ rfl; have k1 : U.cell? ⟨w.heap.size + 1, 1, none⟩ = some (.slice ra rn rc) := cells_of (unhide HBK) 1 _ rfl; have zU := hU1.size; clear hB hU hU1)
    | (refine wpList_load_blk rfl 46 _ rfl (w.heap.size) rfl _ _ _ _ (unhide HB0) Tryd.underlying46 rfl infoL ?_))
  refine ((unhide HFv) U (unhide HE0)).mono ?_
  rintro e w6 ⟨⟨v6, rfl, hO⟩, E6⟩
  obtain ⟨ua, uc, rfl⟩ : ∃ ua uc, v6 = .slice ua o.un.length uc := by
    obtain ⟨x, y, e, _⟩ := hO.reads
    exact ⟨x, y, e⟩
  have HO := hide hO
  replace HB1 := hide (E6.kept (unhide HB1))
  replace HE0 := hide ((unhide HE0).trans E6)
  clear hO E6 HB0 c0 c1 k0 k1 HFv
  go_wp2_with (first
    | (refine wpList_store_blk rfl 46 _ _ rfl rfl (w.heap.size + 2) rfl _ _ _ rfl (unhide HB1) infoL rfl (by simp [Value.oneCell']) ?_; intro Z hy hf9; have HY := hide hy; have FY := hide hf9; clear hy hf9))
  have v0 : Z.cell? ⟨w.heap.size + 2, 0, none⟩ = some (.string o.a) := cells_of (unhide HY) 0 _ rfl
  have v1 : Z.cell? ⟨w.heap.size + 2, 1, none⟩ = some (.string o.b) := cells_of (unhide HY) 1 _ rfl
  have v2 : Z.cell? ⟨w.heap.size + 2, 2, none⟩ = some (.string o.c) := cells_of (unhide HY) 2 _ rfl
  have v3 : Z.cell? ⟨w.heap.size + 2, 3, none⟩ = some (.slice ua o.un.length uc) := cells_of (unhide HY) 3 _ rfl
  exact bodyPost_ret (v := .tuple #[.agg #[.string o.a, .string o.b, .string o.c, .slice ua o.un.length uc], .int .i64 o.d]) (by simp [results, Tryd.results111, go_sem, v0, v1, v2, v3]) rfl ⟨⟨_, rfl, ((unhide HO).fr (unhide FY) (fun g hg e9 => by have := ((unhide HO).lt g hg).1; omega)).mono (by omega)⟩, (unhide FY).ext (unhide HE0) (fun q hq => by omega)⟩
end Go.Proofs.YtbieoijeilhadaaDoor

namespace Go.Proofs.YtbieoijeilhadaaDoor
open Go.RowKit
set_option maxRecDepth 10000 in
set_option maxHeartbeats 8000000 in
theorem specEdit_16 (a b c : ByteArray) (v : Value) (un : List (ByteArray × ByteArray)) (ra : Option Addr) (rn rc : Nat) (w : World) (hv : LnAt w v un) (ha : a.size ≤ 1048576) (hb : b.size ≤ 1048576) (hc : c.size ≤ 1048576) (_hn : un.length ≤ 1048576) (hx : ∀ j, j < un.length → (lnT un j).size ≤ 1048576 ∧ (lnH un j).size ≤ 1048576) (hP : LineP a b c un.length (lnT un) (lnH un)) (o : LD) (HM : ∀ W u, Ext w W → LnAt W u un → Calls Tryd.prog 124 #[.agg #[.string a, .string b, .string c, u], .int .i64 16] W fun e w' => e = .returned (.tuple #[.agg #[.string a, .string b, .string c, u], .int .i64 (-1)]) ∧ Ext W w') (HF : ∀ W u, Ext w W → LnAt W u un → Calls Tryd.prog 130 #[.agg #[.string a, .string b, .string c, u]] W fun e w' => LnO w' W.heap.size o e ∧ Ext W w') :
    Calls Tryd.prog 111 #[.agg #[.string a, .string b, .string c, v], .agg #[.int .i64 16, .slice ra rn rc]] w fun e w' => LnO w' w.heap.size o e ∧ Ext w w' := by
  have infoL : (Tryd.prog.info? 46).map (·.size) = some 4 := by kernel_rfl
  obtain ⟨ao, ca, rfl, _, _⟩ := id hv
  have H1 := hide (fun W (E : Ext w W) => specLineOk_all a b c ao un.length ca (lnT un) (lnH un) W (Row2At.ext hv E) ha hb hc hx true (by simp [hP]))
  have HMv := hide (fun W (E : Ext w W) => HM W _ E (hv.ext E))
  have HFv := hide (fun W (E : Ext w W) => HF W _ E (hv.ext E))
  clear hP hv hx HM HF
  obtain ⟨V, hV⟩ : ∃ V, V = ((w.alloc (.cells #[.string a, .string b, .string c, .slice ao un.length ca] 46)).alloc (.cells #[.int .i64 16, .slice ra rn rc] 67)).alloc (.cells #[.string { data := #[] }, .string { data := #[] }, .string { data := #[] }, .slice none 0 0] 46) := ⟨_, rfl⟩
  have E0 : Ext w V := by rw [hV]; exact (((Ext.refl w).alloc _).alloc _).alloc _
  have HB0 : Hid (V.heap[w.heap.size]? = some (.cells #[.string a, .string b, .string c, .slice ao un.length ca] 46 (0, 0))) := hide (by rw [hV]; exact (((Ext.refl _).alloc _).alloc _).kept (new_block w _))
  have HBK : Hid (V.heap[w.heap.size + 1]? = some (.cells #[.int .i64 16, .slice ra rn rc] 67 (0, 0))) := hide (by rw [hV]; have h := new_block (w.alloc (.cells #[.string a, .string b, .string c, .slice ao un.length ca] 46)) (.cells #[.int .i64 16, .slice ra rn rc] 67); rw [show (w.alloc (.cells #[.string a, .string b, .string c, .slice ao un.length ca] 46)).heap.size = w.heap.size + 1 by simp] at h; exact ((Ext.refl _).alloc _).kept h)
  have HB1 : Hid (V.heap[w.heap.size + 2]? = some (.cells #[.string { data := #[] }, .string { data := #[] }, .string { data := #[] }, .slice none 0 0] 46 (0, 0))) := hide (by rw [hV]; have h := new_block ((w.alloc (.cells #[.string a, .string b, .string c, .slice ao un.length ca] 46)).alloc (.cells #[.int .i64 16, .slice ra rn rc] 67)) (.cells #[.string { data := #[] }, .string { data := #[] }, .string { data := #[] }, .slice none 0 0] 46); rw [show ((w.alloc (.cells #[.string a, .string b, .string c, .slice ao un.length ca] 46)).alloc (.cells #[.int .i64 16, .slice ra rn rc] 67)).heap.size = w.heap.size + 2 by simp] at h; exact h)
  have sz0 : w.heap.size + 2 < V.heap.size := lt_of_block (unhide HB1)
  have HW := hide hV
  clear hV
  go_enter Tryd.func111, Tryd.ntmps111
  go_wp2_with fail
  rw [← unhide HW]
  clear HW
  refine ((unhide H1) _ E0).mono ?_
  rintro e w1 ⟨rfl, E1⟩
  have HE0 := hide (E0.trans E1)
  replace HB0 := hide (E1.kept (unhide HB0))
  replace HBK := hide (E1.kept (unhide HBK))
  replace HB1 := hide (E1.kept (unhide HB1))
  have z1 := E1.size
  clear E0 E1 H1
  have HMc := hide ((unhide HMv) w1 (unhide HE0))
  have k0 : w1.cell? ⟨w.heap.size + 1, 0, none⟩ = some (.int .i64 16) := cells_of (unhide HBK) 0 _ rfl
  clear HMv
  go_wp2_with (first
    | (refine wpList_load_blk rfl 46 _ rfl (w.heap.size) rfl _ _ _ _ (unhide HB0) Tryd.underlying46 rfl infoL ?_))
  refine (unhide HMc).mono ?_
  rintro e w5 ⟨rfl, E5⟩
  replace HB0 := hide (E5.kept (unhide HB0))
  replace HBK := hide (E5.kept (unhide HBK))
  replace HB1 := hide (E5.kept (unhide HB1))
  replace HE0 := hide ((unhide HE0).trans E5)
  have HN := hide (heap_alloc_new w5 (.cells #[.string { data := #[] }, .string { data := #[] }, .string { data := #[] }, .slice none 0 0] 46))
  have hz5 : w.heap.size + 2 < w5.heap.size := lt_of_block (unhide HB1)
  clear HMc E5 k0
  go_wp2_with (first
    | (refine wpList_store_blk rfl 46 _ _ rfl rfl (w5.heap.size) rfl _ _ _ rfl (unhide HN) infoL rfl (by simp [Value.oneCell']) ?_; intro U hB hU; have hU1 := hU.ext ((Ext.refl w5).alloc _) (fun q hq => by omega); replace HB0 := hide (hU1.kept (unhide HB0)); replace HBK := hide (hU1.kept (unhide HBK)); replace HB1 := hide (hU1.kept (unhide HB1)); replace HE0 := hide ((unhide HE0).trans hU1); have c0 : U.cell? ⟨w.heap.size, 0, none⟩ = some (.string a) := cells_of (unhide HB0) 0 _ rfl; have c1 : U.cell? ⟨w.heap.size, 1, none⟩ = some (.string b) := cells_of (unhide HB0) 1 _ rfl; have k0 : U.cell? ⟨w.heap.size + 1, 0, none⟩ = some (.int .i64 16) := cells_of (unhide HBK) 0 _ rfl; have k1 : U.cell? ⟨w.heap.size + 1, 1, none⟩ = some (.slice ra rn rc) := cells_of (unhide HBK) 1 _ rfl; have zU := hU1.size; clear hB hU hU1)
    | (refine wpList_load_blk rfl 46 _ rfl (w.heap.size) rfl _ _ _ _ (unhide HB0) Tryd.underlying46 rfl infoL ?_))
  refine ((unhide HFv) U (unhide HE0)).mono ?_
  rintro e w6 ⟨⟨v6, rfl, hO⟩, E6⟩
  obtain ⟨ua, uc, rfl⟩ : ∃ ua uc, v6 = .slice ua o.un.length uc := by
    obtain ⟨x, y, e, _⟩ := hO.reads
    exact ⟨x, y, e⟩
  have HO := hide hO
  replace HB1 := hide (E6.kept (unhide HB1))
  replace HE0 := hide ((unhide HE0).trans E6)
  clear hO E6 HB0 c0 c1 k0 k1 HFv
  go_wp2_with (first
    | (refine wpList_store_blk rfl 46 _ _ rfl rfl (w.heap.size + 2) rfl _ _ _ rfl (unhide HB1) infoL rfl (by simp [Value.oneCell']) ?_; intro Z hy hf9; have HY := hide hy; have FY := hide hf9; clear hy hf9))
  have v0 : Z.cell? ⟨w.heap.size + 2, 0, none⟩ = some (.string o.a) := cells_of (unhide HY) 0 _ rfl
  have v1 : Z.cell? ⟨w.heap.size + 2, 1, none⟩ = some (.string o.b) := cells_of (unhide HY) 1 _ rfl
  have v2 : Z.cell? ⟨w.heap.size + 2, 2, none⟩ = some (.string o.c) := cells_of (unhide HY) 2 _ rfl
  have v3 : Z.cell? ⟨w.heap.size + 2, 3, none⟩ = some (.slice ua o.un.length uc) := cells_of (unhide HY) 3 _ rfl
  exact bodyPost_ret (v := .tuple #[.agg #[.string o.a, .string o.b, .string o.c, .slice ua o.un.length uc], .int .i64 o.d]) (by simp [results, Tryd.results111, go_sem, v0, v1, v2, v3]) rfl ⟨⟨_, rfl, ((unhide HO).fr (unhide FY) (fun g hg e9 => by have := ((unhide HO).lt g hg).1; omega)).mono (by omega)⟩, (unhide FY).ext (unhide HE0) (fun q hq => by omega)⟩
set_option maxRecDepth 10000 in
set_option maxHeartbeats 8000000 in
theorem specEdit_17 (a b c : ByteArray) (v : Value) (un : List (ByteArray × ByteArray)) (ra : Option Addr) (rn rc : Nat) (w : World) (hv : LnAt w v un) (ha : a.size ≤ 1048576) (hb : b.size ≤ 1048576) (hc : c.size ≤ 1048576) (_hn : un.length ≤ 1048576) (hx : ∀ j, j < un.length → (lnT un j).size ≤ 1048576 ∧ (lnH un j).size ≤ 1048576) (hP : LineP a b c un.length (lnT un) (lnH un)) (o : LD) (HM : ∀ W u, Ext w W → LnAt W u un → Calls Tryd.prog 124 #[.agg #[.string a, .string b, .string c, u], .int .i64 17] W fun e w' => e = .returned (.tuple #[.agg #[.string a, .string b, .string c, u], .int .i64 (-1)]) ∧ Ext W w') (HF : ∀ W u, Ext w W → LnAt W u un → Calls Tryd.prog 131 #[.agg #[.string a, .string b, .string c, u]] W fun e w' => LnO w' W.heap.size o e ∧ Ext W w') :
    Calls Tryd.prog 111 #[.agg #[.string a, .string b, .string c, v], .agg #[.int .i64 17, .slice ra rn rc]] w fun e w' => LnO w' w.heap.size o e ∧ Ext w w' := by
  have infoL : (Tryd.prog.info? 46).map (·.size) = some 4 := by kernel_rfl
  obtain ⟨ao, ca, rfl, _, _⟩ := id hv
  have H1 := hide (fun W (E : Ext w W) => specLineOk_all a b c ao un.length ca (lnT un) (lnH un) W (Row2At.ext hv E) ha hb hc hx true (by simp [hP]))
  have HMv := hide (fun W (E : Ext w W) => HM W _ E (hv.ext E))
  have HFv := hide (fun W (E : Ext w W) => HF W _ E (hv.ext E))
  clear hP hv hx HM HF
  obtain ⟨V, hV⟩ : ∃ V, V = ((w.alloc (.cells #[.string a, .string b, .string c, .slice ao un.length ca] 46)).alloc (.cells #[.int .i64 17, .slice ra rn rc] 67)).alloc (.cells #[.string { data := #[] }, .string { data := #[] }, .string { data := #[] }, .slice none 0 0] 46) := ⟨_, rfl⟩
  have E0 : Ext w V := by rw [hV]; exact (((Ext.refl w).alloc _).alloc _).alloc _
  have HB0 : Hid (V.heap[w.heap.size]? = some (.cells #[.string a, .string b, .string c, .slice ao un.length ca] 46 (0, 0))) := hide (by rw [hV]; exact (((Ext.refl _).alloc _).alloc _).kept (new_block w _))
  have HBK : Hid (V.heap[w.heap.size + 1]? = some (.cells #[.int .i64 17, .slice ra rn rc] 67 (0, 0))) := hide (by rw [hV]; have h := new_block (w.alloc (.cells #[.string a, .string b, .string c, .slice ao un.length ca] 46)) (.cells #[.int .i64 17, .slice ra rn rc] 67); rw [show (w.alloc (.cells #[.string a, .string b, .string c, .slice ao un.length ca] 46)).heap.size = w.heap.size + 1 by simp] at h; exact ((Ext.refl _).alloc _).kept h)
  have HB1 : Hid (V.heap[w.heap.size + 2]? = some (.cells #[.string { data := #[] }, .string { data := #[] }, .string { data := #[] }, .slice none 0 0] 46 (0, 0))) := hide (by rw [hV]; have h := new_block ((w.alloc (.cells #[.string a, .string b, .string c, .slice ao un.length ca] 46)).alloc (.cells #[.int .i64 17, .slice ra rn rc] 67)) (.cells #[.string { data := #[] }, .string { data := #[] }, .string { data := #[] }, .slice none 0 0] 46); rw [show ((w.alloc (.cells #[.string a, .string b, .string c, .slice ao un.length ca] 46)).alloc (.cells #[.int .i64 17, .slice ra rn rc] 67)).heap.size = w.heap.size + 2 by simp] at h; exact h)
  have sz0 : w.heap.size + 2 < V.heap.size := lt_of_block (unhide HB1)
  have HW := hide hV
  clear hV
  go_enter Tryd.func111, Tryd.ntmps111
  go_wp2_with fail
  rw [← unhide HW]
  clear HW
  refine ((unhide H1) _ E0).mono ?_
  rintro e w1 ⟨rfl, E1⟩
  have HE0 := hide (E0.trans E1)
  replace HB0 := hide (E1.kept (unhide HB0))
  replace HBK := hide (E1.kept (unhide HBK))
  replace HB1 := hide (E1.kept (unhide HB1))
  have z1 := E1.size
  clear E0 E1 H1
  have HMc := hide ((unhide HMv) w1 (unhide HE0))
  have k0 : w1.cell? ⟨w.heap.size + 1, 0, none⟩ = some (.int .i64 17) := cells_of (unhide HBK) 0 _ rfl
  clear HMv
  go_wp2_with (first
    | (refine wpList_load_blk rfl 46 _ rfl (w.heap.size) rfl _ _ _ _ (unhide HB0) Tryd.underlying46 rfl infoL ?_))
  refine (unhide HMc).mono ?_
  rintro e w5 ⟨rfl, E5⟩
  replace HB0 := hide (E5.kept (unhide HB0))
  replace HBK := hide (E5.kept (unhide HBK))
  replace HB1 := hide (E5.kept (unhide HB1))
  replace HE0 := hide ((unhide HE0).trans E5)
  have HN := hide (heap_alloc_new w5 (.cells #[.string { data := #[] }, .string { data := #[] }, .string { data := #[] }, .slice none 0 0] 46))
  have hz5 : w.heap.size + 2 < w5.heap.size := lt_of_block (unhide HB1)
  clear HMc E5 k0
  go_wp2_with (first
    | (refine wpList_store_blk rfl 46 _ _ rfl rfl (w5.heap.size) rfl _ _ _ rfl (unhide HN) infoL rfl (by simp [Value.oneCell']) ?_; intro U hB hU; have hU1 := hU.ext ((Ext.refl w5).alloc _) (fun q hq => by omega); replace HB0 := hide (hU1.kept (unhide HB0)); replace HBK := hide (hU1.kept (unhide HBK)); replace HB1 := hide (hU1.kept (unhide HB1)); replace HE0 := hide ((unhide HE0).trans hU1); have c0 : U.cell? ⟨w.heap.size, 0, none⟩ = some (.string a) := cells_of (unhide HB0) 0 _ rfl; have c1 : U.cell? ⟨w.heap.size, 1, none⟩ = some (.string b) := cells_of (unhide HB0) 1 _ rfl; have k0 : U.cell? ⟨w.heap.size + 1, 0, none⟩ = some (.int .i64 17) := cells_of (unhide HBK) 0 _ rfl; have k1 : U.cell? ⟨w.heap.size + 1, 1, none⟩ = some (.slice ra rn rc) := cells_of (unhide HBK) 1 _ rfl; have zU := hU1.size; clear hB hU hU1)
    | (refine wpList_load_blk rfl 46 _ rfl (w.heap.size) rfl _ _ _ _ (unhide HB0) Tryd.underlying46 rfl infoL ?_))
  refine ((unhide HFv) U (unhide HE0)).mono ?_
  rintro e w6 ⟨⟨v6, rfl, hO⟩, E6⟩
  obtain ⟨ua, uc, rfl⟩ : ∃ ua uc, v6 = .slice ua o.un.length uc := by
    obtain ⟨x, y, e, _⟩ := hO.reads
    exact ⟨x, y, e⟩
  have HO := hide hO
  replace HB1 := hide (E6.kept (unhide HB1))
  replace HE0 := hide ((unhide HE0).trans E6)
  clear hO E6 HB0 c0 c1 k0 k1 HFv
  go_wp2_with (first
    | (refine wpList_store_blk rfl 46 _ _ rfl rfl (w.heap.size + 2) rfl _ _ _ rfl (unhide HB1) infoL rfl (by simp [Value.oneCell']) ?_; intro Z hy hf9; have HY := hide hy; have FY := hide hf9; clear hy hf9))
  have v0 : Z.cell? ⟨w.heap.size + 2, 0, none⟩ = some (.string o.a) := cells_of (unhide HY) 0 _ rfl
  have v1 : Z.cell? ⟨w.heap.size + 2, 1, none⟩ = some (.string o.b) := cells_of (unhide HY) 1 _ rfl
  have v2 : Z.cell? ⟨w.heap.size + 2, 2, none⟩ = some (.string o.c) := cells_of (unhide HY) 2 _ rfl
  have v3 : Z.cell? ⟨w.heap.size + 2, 3, none⟩ = some (.slice ua o.un.length uc) := cells_of (unhide HY) 3 _ rfl
  exact bodyPost_ret (v := .tuple #[.agg #[.string o.a, .string o.b, .string o.c, .slice ua o.un.length uc], .int .i64 o.d]) (by simp [results, Tryd.results111, go_sem, v0, v1, v2, v3]) rfl ⟨⟨_, rfl, ((unhide HO).fr (unhide FY) (fun g hg e9 => by have := ((unhide HO).lt g hg).1; omega)).mono (by omega)⟩, (unhide FY).ext (unhide HE0) (fun q hq => by omega)⟩
end Go.Proofs.YtbieoijeilhadaaDoor
