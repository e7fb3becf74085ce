import Derived.Test.YtokjpnlmkecleaaGreatDoorLnCp
import Derived.Test.YtokjpnlmkecleaaGreatDoorLnSet
import Derived.Test.YtokjpnlmkecleaaGreatDoorLineS2
import Derived.Deep.RegionHeld3
import Derived.Test.YtokjpnlmkecleaaGreatDoorWrapW
namespace Go.Proofs.YtokjpnlmkecleaaGreatDoor
open Go.RowKit

set_option maxRecDepth 10000 in
set_option maxHeartbeats 8000000 in
theorem specEdit_16 (a b c : ByteArray) (v : Value) (un : List (ByteArray × ByteArray)) (ra : Option Addr) (rn rc : Nat) (w : World) (hv : LnAt w v un) (ha : a.size ≤ 1048576) (hb : b.size ≤ 1048576) (hc : c.size ≤ 1048576) (_hn : un.length ≤ 1048576) (hx : ∀ j, j < un.length → (lnT un j).size ≤ 1048576 ∧ (lnH un j).size ≤ 1048576) (hP : LineP a b c un.length (lnT un) (lnH un)) (o : LD) (HM : ∀ W u, Ext w W → LnAt W u un → Calls Tryz.prog 31 #[.agg #[.string a, .string b, .string c, u], .int .i64 16] W fun e w' => e = .returned (.tuple #[.agg #[.string a, .string b, .string c, u], .int .i64 (-1)]) ∧ Ext W w') (HF : ∀ W u, Ext w W → LnAt W u un → Calls Tryz.prog 39 #[.agg #[.string a, .string b, .string c, u]] W fun e w' => LnO w' W.heap.size o e ∧ Ext W w') :
    Calls Tryz.prog 9 #[.agg #[.string a, .string b, .string c, v], .agg #[.int .i64 16, .slice ra rn rc]] w fun e w' => LnO w' w.heap.size o e ∧ Ext w w' := by
  have infoL : (Tryz.prog.info? 25).map (·.size) = some 4 := by kernel_rfl
  obtain ⟨ao, ca, rfl, _, _⟩ := id hv
  have H1 := hide (fun W (E : Ext w W) => specLineOk_all a b c ao un.length ca (lnT un) (lnH un) W (Row2At.ext hv E) ha hb hc hx true (by simp [hP]))
  have HMv := hide (fun W (E : Ext w W) => HM W _ E (hv.ext E))
  have HFv := hide (fun W (E : Ext w W) => HF W _ E (hv.ext E))
  clear hP hv hx HM HF
  obtain ⟨V, hV⟩ : ∃ V, V = ((w.alloc (.cells #[.string a, .string b, .string c, .slice ao un.length ca] 25)).alloc (.cells #[.int .i64 16, .slice ra rn rc] 28)).alloc (.cells #[.string { data := #[] }, .string { data := #[] }, .string { data := #[] }, .slice none 0 0] 25) := ⟨_, rfl⟩
  have E0 : Ext w V := by rw [hV]; exact (((Ext.refl w).alloc _).alloc _).alloc _
  have HB0 : Hid (V.heap[w.heap.size]? = some (.cells #[.string a, .string b, .string c, .slice ao un.length ca] 25 (0, 0))) := hide (by rw [hV]; exact (((Ext.refl _).alloc _).alloc _).kept (new_block w _))
  have HBK : Hid (V.heap[w.heap.size + 1]? = some (.cells #[.int .i64 16, .slice ra rn rc] 28 (0, 0))) := hide (by rw [hV]; have h := new_block (w.alloc (.cells #[.string a, .string b, .string c, .slice ao un.length ca] 25)) (.cells #[.int .i64 16, .slice ra rn rc] 28); rw [show (w.alloc (.cells #[.string a, .string b, .string c, .slice ao un.length ca] 25)).heap.size = w.heap.size + 1 by simp] at h; exact ((Ext.refl _).alloc _).kept h)
  have HB1 : Hid (V.heap[w.heap.size + 2]? = some (.cells #[.string { data := #[] }, .string { data := #[] }, .string { data := #[] }, .slice none 0 0] 25 (0, 0))) := hide (by rw [hV]; have h := new_block ((w.alloc (.cells #[.string a, .string b, .string c, .slice ao un.length ca] 25)).alloc (.cells #[.int .i64 16, .slice ra rn rc] 28)) (.cells #[.string { data := #[] }, .string { data := #[] }, .string { data := #[] }, .slice none 0 0] 25); rw [show ((w.alloc (.cells #[.string a, .string b, .string c, .slice ao un.length ca] 25)).alloc (.cells #[.int .i64 16, .slice ra rn rc] 28)).heap.size = w.heap.size + 2 by simp] at h; exact h)
  have sz0 : w.heap.size + 2 < V.heap.size := lt_of_block (unhide HB1)
  have HW := hide hV
  clear hV
  go_enter Tryz.func9, Tryz.ntmps9
  go_wp2_with fail
  rw [← unhide HW]
  clear HW
  refine ((unhide H1) _ E0).mono ?_
  rintro e w1 ⟨rfl, E1⟩
  have HE0 := hide (E0.trans E1)
  replace HB0 := hide (E1.kept (unhide HB0))
  replace HBK := hide (E1.kept (unhide HBK))
  replace HB1 := hide (E1.kept (unhide HB1))
  have z1 := E1.size
  clear E0 E1 H1
  have HMc := hide ((unhide HMv) w1 (unhide HE0))
  have k0 : w1.cell? ⟨w.heap.size + 1, 0, none⟩ = some (.int .i64 16) := cells_of (unhide HBK) 0 _ rfl
  clear HMv
  go_wp2_with (first
    | (refine wpList_load_blk rfl 25 _ rfl (w.heap.size) rfl _ _ _ _ (unhide HB0) Tryz.underlying25 rfl infoL ?_))
  refine (unhide HMc).mono ?_
  rintro e w5 ⟨rfl, E5⟩
  replace HB0 := hide (E5.kept (unhide HB0))
  replace HBK := hide (E5.kept (unhide HBK))
  replace HB1 := hide (E5.kept (unhide HB1))
  replace HE0 := hide ((unhide HE0).trans E5)
  have HN := hide (heap_alloc_new w5 (.cells #[.string { data := #[] }, .string { data := #[] }, .string { data := #[] }, .slice none 0 0] 25))
  have hz5 : w.heap.size + 2 < w5.heap.size := lt_of_block (unhide HB1)
  clear HMc E5 k0
  go_wp2_with (first
    | (refine wpList_store_blk rfl 25 _ _ rfl rfl (w5.heap.size) rfl _ _ _ rfl (unhide HN) infoL rfl (by simp [Value.oneCell']) ?_; intro U hB hU; have hU1 := hU.ext ((Ext.refl w5).alloc _) (fun q hq => by omega); replace HB0 := hide (hU1.kept (unhide HB0)); replace HBK := hide (hU1.kept (unhide HBK)); replace HB1 := hide (hU1.kept (unhide HB1)); replace HE0 := hide ((unhide HE0).trans hU1); have c0 : U.cell? ⟨w.heap.size, 0, none⟩ = some (.string a) := cells_of (unhide HB0) 0 _ rfl; have c1 : U.cell? ⟨w.heap.size, 1, none⟩ = some (.string b) := cells_of (unhide HB0) 1 _ rfl; have k0 : U.cell? ⟨w.heap.size + 1, 0, none⟩ = some (.int .i64 16) := cells_of (unhide HBK) 0 _ rfl; have k1 : U.cell? ⟨w.heap.size + 1, 1, none⟩ = some (.slice ra rn rc) := cells_of (unhide HBK) 1 _ rfl; have zU := hU1.size; clear hB hU hU1)
    | (refine wpList_load_blk rfl 25 _ rfl (w.heap.size) rfl _ _ _ _ (unhide HB0) Tryz.underlying25 rfl infoL ?_))
  refine ((unhide HFv) U (unhide HE0)).mono ?_
  rintro e w6 ⟨⟨v6, rfl, hO⟩, E6⟩
  obtain ⟨ua, uc, rfl⟩ : ∃ ua uc, v6 = .slice ua o.un.length uc := by
    obtain ⟨x, y, e, _⟩ := hO.reads
    exact ⟨x, y, e⟩
  have HO := hide hO
  replace HB1 := hide (E6.kept (unhide HB1))
  replace HE0 := hide ((unhide HE0).trans E6)
  clear hO E6 HB0 c0 c1 k0 k1 HFv
  go_wp2_with (first
    | (refine wpList_store_blk rfl 25 _ _ rfl rfl (w.heap.size + 2) rfl _ _ _ rfl (unhide HB1) infoL rfl (by simp [Value.oneCell']) ?_; intro Z hy hf9; have HY := hide hy; have FY := hide hf9; clear hy hf9))
  have v0 : Z.cell? ⟨w.heap.size + 2, 0, none⟩ = some (.string o.a) := cells_of (unhide HY) 0 _ rfl
  have v1 : Z.cell? ⟨w.heap.size + 2, 1, none⟩ = some (.string o.b) := cells_of (unhide HY) 1 _ rfl
  have v2 : Z.cell? ⟨w.heap.size + 2, 2, none⟩ = some (.string o.c) := cells_of (unhide HY) 2 _ rfl
  have v3 : Z.cell? ⟨w.heap.size + 2, 3, none⟩ = some (.slice ua o.un.length uc) := cells_of (unhide HY) 3 _ rfl
  exact bodyPost_ret (v := .tuple #[.agg #[.string o.a, .string o.b, .string o.c, .slice ua o.un.length uc], .int .i64 o.d]) (by simp [results, Tryz.results9, go_sem, v0, v1, v2, v3]) rfl ⟨⟨_, rfl, ((unhide HO).fr (unhide FY) (fun g hg e9 => by have := ((unhide HO).lt g hg).1; omega)).mono (by omega)⟩, (unhide FY).ext (unhide HE0) (fun q hq => by omega)⟩
set_option maxRecDepth 10000 in
set_option maxHeartbeats 8000000 in
theorem specEdit_17 (a b c : ByteArray) (v : Value) (un : List (ByteArray × ByteArray)) (ra : Option Addr) (rn rc : Nat) (w : World) (hv : LnAt w v un) (ha : a.size ≤ 1048576) (hb : b.size ≤ 1048576) (hc : c.size ≤ 1048576) (_hn : un.length ≤ 1048576) (hx : ∀ j, j < un.length → (lnT un j).size ≤ 1048576 ∧ (lnH un j).size ≤ 1048576) (hP : LineP a b c un.length (lnT un) (lnH un)) (o : LD) (HM : ∀ W u, Ext w W → LnAt W u un → Calls Tryz.prog 31 #[.agg #[.string a, .string b, .string c, u], .int .i64 17] W fun e w' => e = .returned (.tuple #[.agg #[.string a, .string b, .string c, u], .int .i64 (-1)]) ∧ Ext W w') (HF : ∀ W u, Ext w W → LnAt W u un → Calls Tryz.prog 40 #[.agg #[.string a, .string b, .string c, u]] W fun e w' => LnO w' W.heap.size o e ∧ Ext W w') :
    Calls Tryz.prog 9 #[.agg #[.string a, .string b, .string c, v], .agg #[.int .i64 17, .slice ra rn rc]] w fun e w' => LnO w' w.heap.size o e ∧ Ext w w' := by
  have infoL : (Tryz.prog.info? 25).map (·.size) = some 4 := by kernel_rfl
  obtain ⟨ao, ca, rfl, _, _⟩ := id hv
  have H1 := hide (fun W (E : Ext w W) => specLineOk_all a b c ao un.length ca (lnT un) (lnH un) W (Row2At.ext hv E) ha hb hc hx true (by simp [hP]))
  have HMv := hide (fun W (E : Ext w W) => HM W _ E (hv.ext E))
  have HFv := hide (fun W (E : Ext w W) => HF W _ E (hv.ext E))
  clear hP hv hx HM HF
  obtain ⟨V, hV⟩ : ∃ V, V = ((w.alloc (.cells #[.string a, .string b, .string c, .slice ao un.length ca] 25)).alloc (.cells #[.int .i64 17, .slice ra rn rc] 28)).alloc (.cells #[.string { data := #[] }, .string { data := #[] }, .string { data := #[] }, .slice none 0 0] 25) := ⟨_, rfl⟩
  have E0 : Ext w V := by rw [hV]; exact (((Ext.refl w).alloc _).alloc _).alloc _
  have HB0 : Hid (V.heap[w.heap.size]? = some (.cells #[.string a, .string b, .string c, .slice ao un.length ca] 25 (0, 0))) := hide (by rw [hV]; exact (((Ext.refl _).alloc _).alloc _).kept (new_block w _))
  have HBK : Hid (V.heap[w.heap.size + 1]? = some (.cells #[.int .i64 17, .slice ra rn rc] 28 (0, 0))) := hide (by rw [hV]; have h := new_block (w.alloc (.cells #[.string a, .string b, .string c, .slice ao un.length ca] 25)) (.cells #[.int .i64 17, .slice ra rn rc] 28); rw [show (w.alloc (.cells #[.string a, .string b, .string c, .slice ao un.length ca] 25)).heap.size = w.heap.size + 1 by simp] at h; exact ((Ext.refl _).alloc _).kept h)
  have HB1 : Hid (V.heap[w.heap.size + 2]? = some (.cells #[.string { data := #[] }, .string { data := #[] }, .string { data := #[] }, .slice none 0 0] 25 (0, 0))) := hide (by rw [hV]; have h := new_block ((w.alloc (.cells #[.string a, .string b, .string c, .slice ao un.length ca] 25)).alloc (.cells #[.int .i64 17, .slice ra rn rc] 28)) (.cells #[.string { data := #[] }, .string { data := #[] }, .string { data := #[] }, .slice none 0 0] 25); rw [show ((w.alloc (.cells #[.string a, .string b, .string c, .slice ao un.length ca] 25)).alloc (.cells #[.int .i64 17, .slice ra rn rc] 28)).heap.size = w.heap.size + 2 by simp] at h; exact h)
  have sz0 : w.heap.size + 2 < V.heap.size := lt_of_block (unhide HB1)
  have HW := hide hV
  clear hV
  go_enter Tryz.func9, Tryz.ntmps9
  go_wp2_with fail
  rw [← unhide HW]
  clear HW
  refine ((unhide H1) _ E0).mono ?_
  rintro e w1 ⟨rfl, E1⟩
  have HE0 := hide (E0.trans E1)
  replace HB0 := hide (E1.kept (unhide HB0))
  replace HBK := hide (E1.kept (unhide HBK))
  replace HB1 := hide (E1.kept (unhide HB1))
  have z1 := E1.size
  clear E0 E1 H1
  have HMc := hide ((unhide HMv) w1 (unhide HE0))
  have k0 : w1.cell? ⟨w.heap.size + 1, 0, none⟩ = some (.int .i64 17) := cells_of (unhide HBK) 0 _ rfl
  clear HMv
  go_wp2_with (first
    | (refine wpList_load_blk rfl 25 _ rfl (w.heap.size) rfl _ _ _ _ (unhide HB0) Tryz.underlying25 rfl infoL ?_))
  refine (unhide HMc).mono ?_
  rintro e w5 ⟨rfl, E5⟩
  replace HB0 := hide (E5.kept (unhide HB0))
  replace HBK := hide (E5.kept (unhide HBK))
  replace HB1 := hide (E5.kept (unhide HB1))
  replace HE0 := hide ((unhide HE0).trans E5)
  have HN := hide (heap_alloc_new w5 (.cells #[.string { data := #[] }, .string { data := #[] }, .string { data := #[] }, .slice none 0 0] 25))
  have hz5 : w.heap.size + 2 < w5.heap.size := lt_of_block (unhide HB1)
  clear HMc E5 k0
  go_wp2_with (first
    | (refine wpList_store_blk rfl 25 _ _ rfl rfl (w5.heap.size) rfl _ _ _ rfl (unhide HN) infoL rfl (by simp [Value.oneCell']) ?_; intro U hB hU; have hU1 := hU.ext ((Ext.refl w5).alloc _) (fun q hq => by omega); replace HB0 := hide (hU1.kept (unhide HB0)); replace HBK := hide (hU1.kept (unhide HBK)); replace HB1 := hide (hU1.kept (unhide HB1)); replace HE0 := hide ((unhide HE0).trans hU1); have c0 : U.cell? ⟨w.heap.size, 0, none⟩ = some (.string a) := cells_of (unhide HB0) 0 _ rfl; have c1 : U.cell? ⟨w.heap.size, 1, none⟩ = some (.string b) := cells_of (unhide HB0) 1 _ rfl; have k0 : U.cell? ⟨w.heap.size + 1, 0, none⟩ = some (.int .i64 17) := cells_of (unhide HBK) 0 _ rfl; have k1 : U.cell? ⟨w.heap.size + 1, 1, none⟩ = some (.slice ra rn rc) := cells_of (unhide HBK) 1 _ rfl; have zU := hU1.size; clear hB hU hU1)
    | (refine wpList_load_blk rfl 25 _ rfl (w.heap.size) rfl _ _ _ _ (unhide HB0) Tryz.underlying25 rfl infoL ?_))
  refine ((unhide HFv) U (unhide HE0)).mono ?_
  rintro e w6 ⟨⟨v6, rfl, hO⟩, E6⟩
  obtain ⟨ua, uc, rfl⟩ : ∃ ua uc, v6 = .slice ua o.un.length uc := by
    obtain ⟨x, y, e, _⟩ := hO.reads
    exact ⟨x, y, e⟩
  have HO := hide hO
  replace HB1 := hide (E6.kept (unhide HB1))
  replace HE0 := hide ((unhide HE0).trans E6)
  clear hO E6 HB0 c0 c1 k0 k1 HFv
  go_wp2_with (first
    | (refine wpList_store_blk rfl 25 _ _ rfl rfl (w.heap.size + 2) rfl _ _ _ rfl (unhide HB1) infoL rfl (by simp [Value.oneCell']) ?_; intro Z hy hf9; have HY := hide hy; have FY := hide hf9; clear hy hf9))
  have v0 : Z.cell? ⟨w.heap.size + 2, 0, none⟩ = some (.string o.a) := cells_of (unhide HY) 0 _ rfl
  have v1 : Z.cell? ⟨w.heap.size + 2, 1, none⟩ = some (.string o.b) := cells_of (unhide HY) 1 _ rfl
  have v2 : Z.cell? ⟨w.heap.size + 2, 2, none⟩ = some (.string o.c) := cells_of (unhide HY) 2 _ rfl
  have v3 : Z.cell? ⟨w.heap.size + 2, 3, none⟩ = some (.slice ua o.un.length uc) := cells_of (unhide HY) 3 _ rfl
  exact bodyPost_ret (v := .tuple #[.agg #[.string o.a, .string o.b, .string o.c, .slice ua o.un.length uc], .int .i64 o.d]) (by simp [results, Tryz.results9, go_sem, v0, v1, v2, v3]) rfl ⟨⟨_, rfl, ((unhide HO).fr (unhide FY) (fun g hg e9 => by have := ((unhide HO).lt g hg).1; omega)).mono (by omega)⟩, (unhide FY).ext (unhide HE0) (fun q hq => by omega)⟩
end Go.Proofs.YtokjpnlmkecleaaGreatDoor

namespace Go.Proofs.YtokjpnlmkecleaaGreatDoor
open Go.RowKit

set_option linter.unusedSimpArgs false in
set_option maxRecDepth 10000 in
set_option maxHeartbeats 8000000 in
theorem specEdit_other (a b c : ByteArray) (v : Value) (un : List (ByteArray × ByteArray)) (ra : Option Addr) (rn rc : Nat) (w : World) (hv : LnAt w v un) (ha : a.size ≤ 1048576) (hb : b.size ≤ 1048576) (hc : c.size ≤ 1048576) (hn : un.length ≤ 1048576) (hx : ∀ j, j < un.length → (lnT un j).size ≤ 1048576 ∧ (lnH un j).size ≤ 1048576) (kd : Int) (hP : LineP a b c un.length (lnT un) (lnH un)) (n1 : ¬ kd = 1) (n2 : ¬ kd = 2) (n4 : ¬ kd = 4) (n5 : ¬ kd = 5) (n12 : ¬ kd = 12) (n13 : ¬ kd = 13) (n14 : ¬ kd = 14) (n15 : ¬ kd = 15) (n16 : ¬ kd = 16) (n17 : ¬ kd = 17) (HM : ∀ W u, Ext w W → LnAt W u un → Calls Tryz.prog 31 #[.agg #[.string a, .string b, .string c, u], .int .i64 kd] W fun e w' => e = .returned (.tuple #[.agg #[.string a, .string b, .string c, u], .int .i64 (-1)]) ∧ Ext W w') (dd : Int) (HF : ∀ W, Calls Tryz.prog 41 #[.int .i64 kd] W fun e w' => e = .returned (.int .i64 dd) ∧ Ext W w') :
    Calls Tryz.prog 9 #[.agg #[.string a, .string b, .string c, v], .agg #[.int .i64 kd, .slice ra rn rc]] w fun e w' => LnO w' w.heap.size ⟨a, b, c, un, dd⟩ e ∧ Ext w w' := by
  have infoL : (Tryz.prog.info? 25).map (·.size) = some 4 := by kernel_rfl
  obtain ⟨ao, ca, rfl, _, _⟩ := id hv
  have H1 := hide (fun W (E : Ext w W) => specLineOk_all a b c ao un.length ca (lnT un) (lnH un) W (Row2At.ext hv E) ha hb hc hx true (by simp [hP]))
  have HMv := hide (fun W (E : Ext w W) => HM W _ E (hv.ext E))
  have HFv := hide HF
  have HC := hide (fun W (E : Ext w W) => l4Copy_any a b c (.slice ao un.length ca) un.length (lnT un) (lnH un) W (Row2At.ext hv E) hn)
  clear hP hv hx HM HF
  have m1 : (kd == 1) = false := by simpa using n1
  have m2 : (kd == 2) = false := by simpa using n2
  have m4 : (kd == 4) = false := by simpa using n4
  have m5 : (kd == 5) = false := by simpa using n5
  have m12 : (kd == 12) = false := by simpa using n12
  have m13 : (kd == 13) = false := by simpa using n13
  have m14 : (kd == 14) = false := by simpa using n14
  have m15 : (kd == 15) = false := by simpa using n15
  have m16 : (kd == 16) = false := by simpa using n16
  have m17 : (kd == 17) = false := by simpa using n17
  obtain ⟨V, hV⟩ : ∃ V, V = ((w.alloc (.cells #[.string a, .string b, .string c, .slice ao un.length ca] 25)).alloc (.cells #[.int .i64 kd, .slice ra rn rc] 28)).alloc (.cells #[.string { data := #[] }, .string { data := #[] }, .string { data := #[] }, .slice none 0 0] 25) := ⟨_, rfl⟩
  have E0 : Ext w V := by rw [hV]; exact (((Ext.refl w).alloc _).alloc _).alloc _
  have HB0 : Hid (V.heap[w.heap.size]? = some (.cells #[.string a, .string b, .string c, .slice ao un.length ca] 25 (0, 0))) := hide (by rw [hV]; exact (((Ext.refl _).alloc _).alloc _).kept (new_block w _))
  have HBK : Hid (V.heap[w.heap.size + 1]? = some (.cells #[.int .i64 kd, .slice ra rn rc] 28 (0, 0))) := hide (by rw [hV]; have h := new_block (w.alloc (.cells #[.string a, .string b, .string c, .slice ao un.length ca] 25)) (.cells #[.int .i64 kd, .slice ra rn rc] 28); rw [show (w.alloc (.cells #[.string a, .string b, .string c, .slice ao un.length ca] 25)).heap.size = w.heap.size + 1 by simp] at h; exact ((Ext.refl _).alloc _).kept h)
  have HB1 : Hid (V.heap[w.heap.size + 2]? = some (.cells #[.string { data := #[] }, .string { data := #[] }, .string { data := #[] }, .slice none 0 0] 25 (0, 0))) := hide (by rw [hV]; have h := new_block ((w.alloc (.cells #[.string a, .string b, .string c, .slice ao un.length ca] 25)).alloc (.cells #[.int .i64 kd, .slice ra rn rc] 28)) (.cells #[.string { data := #[] }, .string { data := #[] }, .string { data := #[] }, .slice none 0 0] 25); rw [show ((w.alloc (.cells #[.string a, .string b, .string c, .slice ao un.length ca] 25)).alloc (.cells #[.int .i64 kd, .slice ra rn rc] 28)).heap.size = w.heap.size + 2 by simp] at h; exact h)
  have sz0 : w.heap.size + 2 < V.heap.size := lt_of_block (unhide HB1)
  have HW := hide hV
  clear hV
  go_enter Tryz.func9, Tryz.ntmps9
  go_wp2_with fail
  rw [← unhide HW]
  clear HW
  refine ((unhide H1) _ E0).mono ?_
  rintro e w1 ⟨rfl, E1⟩
  have HE0 := hide (E0.trans E1)
  replace HB0 := hide (E1.kept (unhide HB0))
  replace HBK := hide (E1.kept (unhide HBK))
  replace HB1 := hide (E1.kept (unhide HB1))
  have z1 := E1.size
  clear E0 E1 H1
  have HMc := hide ((unhide HMv) w1 (unhide HE0))
  have k0 : w1.cell? ⟨w.heap.size + 1, 0, none⟩ = some (.int .i64 kd) := cells_of (unhide HBK) 0 _ rfl
  clear HMv
  go_wp2_with (first
    | (refine wpList_load_blk rfl 25 _ rfl (w.heap.size) rfl _ _ _ _ (unhide HB0) Tryz.underlying25 rfl infoL ?_))
  refine (unhide HMc).mono ?_
  rintro e w5 ⟨rfl, E5⟩
  replace HB0 := hide (E5.kept (unhide HB0))
  replace HBK := hide (E5.kept (unhide HBK))
  replace HB1 := hide (E5.kept (unhide HB1))
  replace HE0 := hide ((unhide HE0).trans E5)
  have HN := hide (heap_alloc_new w5 (.cells #[.string { data := #[] }, .string { data := #[] }, .string { data := #[] }, .slice none 0 0] 25))
  have hz5 : w.heap.size + 2 < w5.heap.size := lt_of_block (unhide HB1)
  clear HMc E5 k0
  go_wp2_with (first
    | (refine wpList_store_blk rfl 25 _ _ rfl rfl (w5.heap.size) rfl _ _ _ rfl (unhide HN) infoL rfl (by simp [Value.oneCell']) ?_; intro U hB hU; have hU1 := hU.ext ((Ext.refl w5).alloc _) (fun q hq => by omega); replace HB0 := hide (hU1.kept (unhide HB0)); replace HBK := hide (hU1.kept (unhide HBK)); replace HB1 := hide (hU1.kept (unhide HB1)); replace HE0 := hide ((unhide HE0).trans hU1); have c0 : U.cell? ⟨w.heap.size, 0, none⟩ = some (.string a) := cells_of (unhide HB0) 0 _ rfl; have c1 : U.cell? ⟨w.heap.size, 1, none⟩ = some (.string b) := cells_of (unhide HB0) 1 _ rfl; have k0 : U.cell? ⟨w.heap.size + 1, 0, none⟩ = some (.int .i64 kd) := cells_of (unhide HBK) 0 _ rfl; have k1 : U.cell? ⟨w.heap.size + 1, 1, none⟩ = some (.slice ra rn rc) := cells_of (unhide HBK) 1 _ rfl; have zU := hU1.size; clear hB hU hU1)
    | (refine wpList_load_blk rfl 25 _ rfl (w.heap.size) rfl _ _ _ _ (unhide HB0) Tryz.underlying25 rfl infoL ?_))
  have q0 : U.cell? ⟨w.heap.size, 0, none⟩ = some (.string a) ∧ U.cell? ⟨w.heap.size, 1, none⟩ = some (.string b) ∧ U.cell? ⟨w.heap.size, 2, none⟩ = some (.string c) ∧ U.cell? ⟨w.heap.size, 3, none⟩ = some (.slice ao un.length ca) ∧ U.cell? ⟨w.heap.size + 1, 0, none⟩ = some (.int .i64 kd) := ⟨cells_of (unhide HB0) 0 _ rfl, cells_of (unhide HB0) 1 _ rfl, cells_of (unhide HB0) 2 _ rfl, cells_of (unhide HB0) 3 _ rfl, cells_of (unhide HBK) 0 _ rfl⟩
  refine wp_region_held_drew (S := fun W => W.cell? ⟨w.heap.size, 0, none⟩ = some (.string a) ∧ W.cell? ⟨w.heap.size, 1, none⟩ = some (.string b) ∧ W.cell? ⟨w.heap.size, 2, none⟩ = some (.string c) ∧ W.cell? ⟨w.heap.size, 3, none⟩ = some (.slice ao un.length ca) ∧ W.cell? ⟨w.heap.size + 1, 0, none⟩ = some (.int .i64 kd)) (by kernel_rfl) q0 (fun hHeld => ?_)
  refine wpAnyH_take (i := 0) (v := ?_) rfl (by kernel_rfl) (by kernel_rfl) (by kernel_rfl) (fun _ _ _ h => h) (Or.inl ⟨by rfl, ?_⟩) (by assumption) ?_
  rotate_left
  · intro w' hSw; go_simp <;> with_reducible rfl
  simp only [Act.put, List.getElem_toArray, List.getElem_cons_succ, List.getElem_cons_zero, List.setIfInBounds_toArray, List.set_cons_zero, List.set_cons_succ]
  refine wpAnyH_take (i := 2) (v := ?_) rfl (by kernel_rfl) (by kernel_rfl) (by kernel_rfl) (fun _ _ _ h => h) (Or.inl ⟨by rfl, ?_⟩) (by assumption) ?_
  rotate_left
  · intro w' hSw; go_simp <;> with_reducible rfl
  simp only [Act.put, List.getElem_toArray, List.getElem_cons_succ, List.getElem_cons_zero, List.setIfInBounds_toArray, List.set_cons_zero, List.set_cons_succ]
  refine wpAnyH_take (i := 3) (v := ?_) rfl (by kernel_rfl) (by kernel_rfl) (by kernel_rfl) (fun _ _ _ h => h) (Or.inl ⟨by rfl, ?_⟩) (by assumption) ?_
  rotate_left
  · intro w' hSw; go_simp <;> with_reducible rfl
  simp only [Act.put, List.getElem_toArray, List.getElem_cons_succ, List.getElem_cons_zero, List.setIfInBounds_toArray, List.set_cons_zero, List.set_cons_succ]
  refine wpAnyH_ready (rs := [1]) (by kernel_rfl) (by simp) ?_
  refine AllReadyH.cons rfl (fun K hK => ?_) AllReadyH.nil
  go_simp
  go_wp2_with (go_at_call 30; refine ((unhide HC) _ (by first | exact unhide HE0 | exact (unhide HE0).drew)).mono ?_; rintro e w6 ⟨ua, uc, rfl, HO0, E6⟩; have HO := (show Hid (Own2 w6 U.heap.size _ _ _ _ _) from HO0); clear HO0; have F6 : Ext U w6 := (by first | exact E6 | exact (Ext.refl _).drew.trans E6); have d0 := F6.kept (unhide HB0); have d1 := F6.kept (unhide HBK); have z6 := F6.size; clear E6)
  refine hK.out _ _ ⟨cells_of d0 0 _ rfl, cells_of d0 1 _ rfl, cells_of d0 2 _ rfl, cells_of d0 3 _ rfl, cells_of d1 0 _ rfl⟩ (fun hHeld => ?_)
  clear hK K
  refine wpAnyH_ready (rs := [4]) (by kernel_rfl) (by simp) ?_
  refine AllReadyH.cons rfl (fun K hK => ?_) AllReadyH.nil
  go_simp
  go_wp2_with (go_at_call 41; refine ((unhide HFv) _).mono ?_; rintro e w7 ⟨rfl, E7⟩; have F7 : Ext w6 w7 := (by first | exact E7 | exact (Ext.refl _).drew.trans E7); have e0 := F7.kept d0; have e1 := F7.kept d1; clear E7)
  refine hK.out _ _ ⟨cells_of e0 0 _ rfl, cells_of e0 1 _ rfl, cells_of e0 2 _ rfl, cells_of e0 3 _ rfl, cells_of e1 0 _ rfl⟩ (fun hHeld => ?_)
  clear hK K
  have HB17 := hide ((F6.trans F7).kept (unhide HB1))
  have HO7 := hide ((unhide HO).ext F7)
  replace HE0 := hide ((unhide HE0).trans (F6.trans F7))
  refine wpAnyH_ready (rs := [5]) (by kernel_rfl) (by simp) ?_
  refine AllReadyH.cons rfl (fun K hK => ?_) AllReadyH.nil
  refine wp_store_blk 25 _ _ rfl rfl (w.heap.size + 2) rfl _ _ #[.string a, .string b, .string c, .slice ua un.length uc] rfl (unhide HB17) infoL rfl (by simp [Value.oneCell']) ?_
  intro Z hy hf9
  have g0 := hf9.kept e0 (by omega)
  have g1 := hf9.kept e1 (by omega)
  refine hK.out _ _ ⟨cells_of g0 0 _ rfl, cells_of g0 1 _ rfl, cells_of g0 2 _ rfl, cells_of g0 3 _ rfl, cells_of g1 0 _ rfl⟩ (fun hHeld => ?_)
  have HY := hide hy
  have FY := hide hf9
  clear hK K hy hf9
  refine wpAnyH_take (i := 6) (v := ?_) rfl (by kernel_rfl) (by kernel_rfl) (by kernel_rfl) (fun _ _ _ h => h) (Or.inl ⟨by rfl, ?_⟩) (by assumption) ?_
  rotate_left
  · intro w' hSw; go_simp <;> with_reducible rfl
  simp only [Act.put, List.getElem_toArray, List.getElem_cons_succ, List.getElem_cons_zero, List.setIfInBounds_toArray, List.set_cons_zero, List.set_cons_succ]
  refine wpAnyH_done (by kernel_rfl) ?_ _
  go_wp2
  have v0 : Z.cell? ⟨w.heap.size + 2, 0, none⟩ = some (.string a) := cells_of (unhide HY) 0 _ rfl
  have v1 : Z.cell? ⟨w.heap.size + 2, 1, none⟩ = some (.string b) := cells_of (unhide HY) 1 _ rfl
  have v2 : Z.cell? ⟨w.heap.size + 2, 2, none⟩ = some (.string c) := cells_of (unhide HY) 2 _ rfl
  have v3 : Z.cell? ⟨w.heap.size + 2, 3, none⟩ = some (.slice ua un.length uc) := cells_of (unhide HY) 3 _ rfl
  exact bodyPost_ret (v := .tuple #[.agg #[.string a, .string b, .string c, .slice ua un.length uc], .int .i64 dd]) (by simp [results, Tryz.results9, go_sem, v0, v1, v2, v3]) rfl ⟨⟨_, rfl, ((unhide HO7).fr (unhide FY) (fun g hg e9 => by have := ((unhide HO7).lt g hg).1; omega)).mono (by omega)⟩, (unhide FY).ext (unhide HE0) (fun q hq => by omega)⟩
end Go.Proofs.YtokjpnlmkecleaaGreatDoor

namespace Go.Proofs.YtokjpnlmkecleaaGreatDoor
open Go.RowKit

theorem cutC_len (bs : List Int) : (cutC bs).length ≤ bs.length := Nat.le_trans (clF_len _ _) (cleanL_len bs)
theorem cutC_fit (bs : List Int) : (cutC bs).length + sumR (cutC bs) (cutC bs).length ≤ 2 * bs.length + 1 := by
  have h1 := clF_sum (cleanL bs) (cleanL bs).length
  have h2 := cleanL_len bs
  have h3 := cutC_len bs
  have h4 : sumR (cutC bs) (cutC bs).length ≤ (cleanL bs).length + 1 := h1
  omega
theorem cutC_runes (bs : List Int) (j : Nat) : (cR (cutC bs) j).length ≤ bs.length + 1 := by
  have h1 := clF_runes (cleanL bs) (cleanL bs).length j
  have h2 := cleanL_len bs
  have h3 : (cR (cutC bs) j).length ≤ (cleanL bs).length + 1 := h1
  omega
theorem cutC_i32 (bs : List Int) (j : Nat) : I32s (cR (cutC bs) j) := clF_i32 _ _ j
theorem sumR_left (xs ys : List (List Int × Int)) : ∀ k, k ≤ xs.length → sumR (xs ++ ys) k = sumR xs k
  | 0, _ => rfl
  | k + 1, h => by rw [sumR, sumR, sumR_left xs ys k (by omega), cR_app, if_pos (by omega)]
theorem sumR_right (xs ys : List (List Int × Int)) : ∀ k, k ≤ ys.length → sumR (xs ++ ys) (xs.length + k) = sumR xs xs.length + sumR ys k
  | 0, _ => by rw [Nat.add_zero, sumR_left xs ys _ (Nat.le_refl _)]; rfl
  | k + 1, h => by
    rw [← Nat.add_assoc, sumR, sumR_right xs ys k (by omega), cR_app, if_neg (by omega), show xs.length + k - xs.length = k by omega, sumR]
    omega
/-- What holds of the clusters of texts. -/
structure Cuts (cs : List (List Int × Int)) (N : Nat) : Prop where
  wide : Wides cs
  len : cs.length ≤ N
  sum : cs.length + sumR cs cs.length ≤ 2 * N + N
  runes : ∀ j, (cR cs j).length ≤ N + 1
  i32 : ∀ j, I32s (cR cs j)
theorem cuts_one (bs : List Int) : Cuts (cutC bs) (bs.length + 1) :=
  ⟨cutC_wides bs, by have := cutC_len bs; omega, by have := cutC_fit bs; omega, fun j => by have := cutC_runes bs j; omega, cutC_i32 bs⟩
theorem Cuts.app {xs ys : List (List Int × Int)} {N M : Nat} (hx : Cuts xs N) (hy : Cuts ys M) : Cuts (xs ++ ys) (N + M) := by
  have h1 := hx.len
  have h2 := hy.len
  have h3 := hx.sum
  have h4 := hy.sum
  refine ⟨hx.wide.app hy.wide, by rw [List.length_append]; omega, ?_, fun j => ?_, fun j => ?_⟩
  · rw [List.length_append, sumR_right xs ys _ (Nat.le_refl _)]
    omega
  · rw [cR_app]
    split
    · have := hx.runes j; omega
    · have := hy.runes (j - xs.length); omega
  · rw [cR_app]
    split
    · exact hx.i32 j
    · exact hy.i32 _
theorem sumR_up (cs : List (List Int × Int)) (k : Nat) : ∀ n, k ≤ n → sumR cs k ≤ sumR cs n := by
  intro n
  induction n with
  | zero => intro h; rw [show k = 0 by omega]; exact Nat.le_refl _
  | succ n ih =>
    intro h
    by_cases e : k = n + 1
    · subst e; exact Nat.le_refl _
    · have := ih (by omega); rw [sumR]; omega
theorem Cuts.part {cs : List (List Int × Int)} {N : Nat} (h : Cuts cs N) (s e : Nat) : ((cs.take e).drop s).length + sumR ((cs.take e).drop s) ((cs.take e).drop s).length ≤ 3 * N ∧ ∀ j, I32s (cR ((cs.take e).drop s) j) := by
  have h1 := h.sum
  have hl : ((cs.take e).drop s).length = min e cs.length - s := by simp
  refine ⟨?_, fun j => ?_⟩
  · by_cases hse : s ≤ min e cs.length
    · have e1 := sumR_sub cs s e (min e cs.length - s) (by omega)
      have e2 := sumR_up cs (s + (min e cs.length - s)) cs.length (by omega)
      rw [hl]
      omega
    · have h0 : (cs.take e).drop s = [] := List.eq_nil_of_length_eq_zero (by omega)
      rw [h0]
      simp [sumR]
  · unfold cR
    cases hj : ((cs.take e).drop s)[j]? with
    | none => intro x hx; cases hx
    | some u =>
      obtain ⟨q, hq⟩ := List.mem_iff_getElem?.1 (List.mem_of_mem_take (List.mem_of_mem_drop (List.mem_of_getElem? hj)))
      have := h.i32 q
      unfold cR at this
      rw [hq] at this
      exact this
set_option maxRecDepth 10000 in
set_option maxHeartbeats 1000000 in
theorem l4Cut_any (bs : List Int) (hb : Bytes bs) (w : World) (hl : bs.length ≤ 8000000) :
    Calls Tryz.prog 35 #[.string (toBA bs)] w fun e w' => ∃ v rs, e = .returned v ∧ OwnCls w' w.heap.size v rs (cutC bs) ∧ Ext w w' := by
  obtain ⟨v0, w0, hrun, h0, E0⟩ := run_s2i (P := Tryz.prog) w _ _ _ Tryz.underlying9 Tryz.underlying22 Tryz.underlying5 bs hb
  have hcl := cleanL_len bs
  have H0 := hide h0
  go_enter Tryz.func35, Tryz.ntmps35
  go_wp2_with fail
  refine (specClean_any bs hb v0 w0 (unhide H0) (by omega)).mono ?_
  rintro e w1 ⟨v1, rfl, o1, E1⟩
  go_wp2_with fail
  refine (specClusters_any v1 (cleanL bs) w1 (ints_of_owns o1) (cleanL_i32 bs) (by omega)).mono ?_
  rintro e w2 ⟨v2, rs2, rfl, o2, E2⟩
  have O2 := hide o2
  clear o1 o2
  go_wp2
  go_ret
  exact ⟨_, _, rfl, OwnCls.mono (unhide O2) (E0.trans E1).size, (E0.trans E1).trans E2⟩
set_option maxRecDepth 10000 in
set_option maxHeartbeats 1000000 in
theorem clustersOf_any (bs : List Int) (hb : Bytes bs) (w : World) (hl : bs.length ≤ 8000000) (hT : Laid w) :
    Calls Tryz.prog 84 #[.string (toBA bs)] w fun e w' => ∃ v rs, e = .returned v ∧ OwnCls w' w.heap.size v rs (cutC bs) ∧ Ext w w' := by
  obtain ⟨v0, w0, hrun, h0, E0⟩ := run_s2i (P := Tryz.prog) w _ _ _ Tryz.underlying9 Tryz.underlying22 Tryz.underlying5 bs hb
  have hcl := cleanL_len bs
  have H0 := hide h0
  have HT := hide hT
  go_enter Tryz.func84, Tryz.ntmps84
  go_wp2_with fail
  refine (implClean_any bs hb v0 w0 (unhide H0) (by omega)).mono ?_
  rintro e w1 ⟨v1, rfl, o1, E1⟩
  have T1 := hide ((unhide HT).below (E0.trans E1).below)
  go_wp2_with fail
  refine (implClusters_any v1 (cleanL bs) w1 (ints_of_owns o1) (cleanL_i32 bs) (by omega) (unhide T1)).mono ?_
  rintro e w2 ⟨v2, rs2, rfl, o2, E2⟩
  have O2 := hide o2
  clear o1 o2
  go_wp2
  go_ret
  exact ⟨_, _, rfl, OwnCls.mono (unhide O2) (E0.trans E1).size, (E0.trans E1).trans E2⟩
/-- The cells of clusters. -/
theorem OwnCls.ys {w : World} {b : Nat} {v : Value} {rs : List Value} {cs : List (List Int × Int)} (h : OwnCls w b v rs cs) : ∃ ys, w.ownsRow b 93 2 v cs.length ys ∧ (∀ j, j < cs.length → ys[j * 2]? = some (rV rs j) ∧ ys[j * 2 + 1]? = some (.int .i64 (cW cs j))) ∧ Src w 2 v cs.length ys := by
  obtain ⟨h0, ⟨ys, h1, h2⟩, h3, h4⟩ := h
  refine ⟨ys, h1, h2, h1.1, fun u hu => ?_, ?_⟩
  · obtain ⟨i, hi⟩ := List.mem_iff_getElem?.1 hu
    have hil : i < cs.length * 2 := by rw [← h1.1]; exact (List.getElem?_eq_some_iff.1 hi).1
    have hj := h2 (i / 2) (by omega)
    rcases Nat.mod_two_eq_zero_or_one i with e | e
    · rw [show i / 2 * 2 = i by omega, hi] at hj
      obtain rfl := Option.some.inj hj.1
      rcases (h3 (i / 2) (by omega)).2 with ⟨e2, _⟩ | ⟨g, cap, cur, e2, _⟩ <;> rw [e2] <;> rfl
    · rw [show i / 2 * 2 + 1 = i by omega, hi] at hj
      obtain rfl := Option.some.inj hj.2
      rfl
  · rcases h1.2 with ⟨rfl, e0⟩ | ⟨g, cap, cur, rfl, _⟩
    · exact .inl ⟨0, rfl, e0⟩
    · exact .inr ⟨_, cap, rfl, h1.cells rfl⟩
/-- Clusters appended to clusters. -/
theorem OwnCls.append {w w' : World} {b b2 : Nat} {v1 v2 v' : Value} {rs1 rs2 : List Value} {cs1 cs2 : List (List Int × Int)} {ys1 ys2 : List Value} (h1 : OwnCls w b v1 rs1 cs1) (h2 : OwnCls w b2 v2 rs2 cs2) (hb : b ≤ b2) (hlt : ∀ g, Foot v1 rs1 cs1.length g → g < b2)
    (o1 : w.ownsRow b 93 2 v1 cs1.length ys1) (k1 : ∀ j, j < cs1.length → ys1[j * 2]? = some (rV rs1 j) ∧ ys1[j * 2 + 1]? = some (.int .i64 (cW cs1 j))) (k2 : ∀ j, j < cs2.length → ys2[j * 2]? = some (rV rs2 j) ∧ ys2[j * 2 + 1]? = some (.int .i64 (cW cs2 j)))
    (o' : w'.ownsRow b 93 2 v' (cs1.length + cs2.length) (ys1 ++ ys2)) (hg : w.grownBy w' v1.ownBlock) : OwnCls w' b v' (rs1 ++ rs2) (cs1 ++ cs2) := by
  have l1 : rs1.length = cs1.length := h1.1
  have l2 : rs2.length = cs2.length := h2.1
  have ly : ys1.length = cs1.length * 2 := o1.1
  have fr : Fr (fun g => v1.ownBlock = some g) w w' := (Fr.refl _ w).grown hg (fun k hk => hk)
  have rv : ∀ j, rV (rs1 ++ rs2) j = if j < cs1.length then rV rs1 j else rV rs2 (j - cs1.length) := by
    intro j
    unfold rV
    split
    · rename_i h; rw [List.getElem?_append_left (by omega)]
    · rename_i h; rw [List.getElem?_append_right (by omega), l1]
  have lt1 : ∀ j g, j < cs1.length → (rV rs1 j).ownBlock = some g → g < b2 := fun j g hj hgg => hlt g (.inr ⟨j, hj, hgg⟩)
  have ge2 : ∀ j g, j < cs2.length → (rV rs2 j).ownBlock = some g → b2 ≤ g := fun j g hj hgg => ((h2.2.2.1 j hj).lt g hgg).1
  refine ⟨by simp [l1, l2], ⟨_, by rw [List.length_append]; exact o', fun j hj => ?_⟩, fun j hj => ?_, fun i j g hij hj => ?_⟩
  · rw [rv, cW_app]
    split
    · rename_i h
      have := k1 j h
      rw [List.getElem?_append_left (by omega), List.getElem?_append_left (by omega)]
      exact this
    · rename_i h
      simp at hj
      have := k2 (j - cs1.length) (by omega)
      rw [List.getElem?_append_right (by omega), List.getElem?_append_right (by omega), ly, show j * 2 - cs1.length * 2 = (j - cs1.length) * 2 by omega, show j * 2 + 1 - cs1.length * 2 = (j - cs1.length) * 2 + 1 by omega]
      exact this
  · rw [rv, cR_app]
    split
    · rename_i h
      exact fr.owns (h1.2.2.1 j h) (fun g hgg e => owns_apart o1 (h1.2.2.1 j h) (by decide) e hgg)
    · rename_i h
      simp at hj
      refine owns_mono (fr.owns (h2.2.2.1 _ (by omega)) (fun g hgg e => ?_)) hb
      have a := ge2 _ g (by omega) hgg
      have c := hlt g (.inl e)
      omega
  · rw [rv, rv]
    simp at hj
    intro hi
    by_cases hi1 : i < cs1.length
    · rw [if_pos hi1] at hi
      by_cases hj1 : j < cs1.length
      · rw [if_pos hj1]
        exact h1.2.2.2 i j g hij hj1 hi
      · rw [if_neg hj1]
        intro e
        have a := lt1 i g hi1 hi
        have c := ge2 _ g (by omega) e
        omega
    · rw [if_neg hi1] at hi
      rw [if_neg (by omega)]
      exact h2.2.2.2 _ _ g (by omega) (by omega) hi
/-- Where clusters lie. -/
theorem OwnCls.lt {w : World} {b : Nat} {v : Value} {rs : List Value} {cs : List (List Int × Int)} (h : OwnCls w b v rs cs) {g : Nat} (hg : Foot v rs cs.length g) : b ≤ g ∧ g < w.heap.size := by
  rcases hg with hg | ⟨j, hj, hg⟩
  · obtain ⟨ys, o, _⟩ := h.2.1
    exact o.lt g hg
  · exact (h.2.2.1 j hj).lt g hg
end Go.Proofs.YtokjpnlmkecleaaGreatDoor

namespace Go.Proofs.YtokjpnlmkecleaaGreatDoor
open Go.RowKit

/-- A piece of clusters, cut as slices are. -/
theorem ClsAt.cut {w : World} {a : Option Addr} {n c : Nat} {cs : List (List Int × Int)} (h : ClsAt w (.slice a n c) cs) (s e Z : Nat) (hse : s ≤ e) (he : e ≤ cs.length) (hZ : e - s ≤ Z) (a' : Option Addr) (ha : a' = a.map (fun x => x.add (s * 2)) ∨ e - s = 0) : ClsAt w (.slice a' (e - s) Z) ((cs.take e).drop s) := by
  have hlen : ((cs.take e).drop s).length = e - s := by simp; omega
  by_cases h0 : e - s = 0
  · exact ⟨[], a', Z, by rw [hlen], by omega, fun j hj => by omega, fun hp => by omega⟩
  obtain ⟨rs, ao, ca, e1, hca, hr, hx⟩ := h
  simp only [Value.slice.injEq] at e1
  obtain ⟨rfl, rfl, rfl⟩ := e1
  obtain ⟨b, off, rfl, hc⟩ := hx (by omega)
  have ha' : a' = some ⟨b, off + s * 2, none⟩ := by
    rcases ha with rfl | ha
    · simp [Addr.add]
    · omega
  subst ha'
  refine ⟨(List.range (e - s)).map (fun j => rV rs (s + j)), _, Z, by rw [hlen], by omega, fun j hj => ?_, fun _ => ⟨b, off + s * 2, rfl, fun j hj => ?_⟩⟩
  · rw [hlen] at hj
    rw [(sub_R cs s e j (by omega)).1]
    have e2 : rV ((List.range (e - s)).map (fun j => rV rs (s + j))) j = rV rs (s + j) := by
      conv => lhs; unfold rV
      rw [List.getElem?_map, List.getElem?_range hj]
      rfl
    rw [e2]
    exact hr (s + j) (by omega)
  · rw [hlen] at hj
    have e2 : rV ((List.range (e - s)).map (fun j => rV rs (s + j))) j = rV rs (s + j) := by
      conv => lhs; unfold rV
      rw [List.getElem?_map, List.getElem?_range hj]
      rfl
    rw [e2, (sub_R cs s e j (by omega)).2, show off + s * 2 + j * 2 = off + (s + j) * 2 by omega]
    exact hc (s + j) (by omega)
end Go.Proofs.YtokjpnlmkecleaaGreatDoor
