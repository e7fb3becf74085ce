import Derived.Test.YtokjpnlmkecleaaGreatDoorLnSet
import Derived.Test.YtokjpnlmkecleaaGreatDoorLnCp
import Derived.Test.YtokjpnlmkecleaaGreatDoorEdE2
import Derived.Test.YtokjpnlmkecleaaGreatDoorClsCut
import Derived.Test.YtokjpnlmkecleaaGreatDoorEdE5
import Derived.Test.YtokjpnlmkecleaaGreatDoorEdE6
import Derived.Test.YtokjpnlmkecleaaGreatDoorEdD7
import Derived.Test.YtokjpnlmkecleaaGreatDoorEdD18
import Derived.Test.YtokjpnlmkecleaaGreatDoorEdMv
import Derived.Test.YtokjpnlmkecleaaGreatDoorEdMs
import Derived.Test.YtokjpnlmkecleaaGreatDoorEdGn
import Derived.Test.YtokjpnlmkecleaaGreatDoorEdG4
import Derived.Test.YtokjpnlmkecleaaGreatDoorEdP0
import Derived.Test.YtokjpnlmkecleaaGreatDoorEdS0
import Derived.Test.YtokjpnlmkecleaaGreatDoorEdS1
import Derived.Test.YtokjpnlmkecleaaGreatDoorEdS2
import Derived.Test.YtokjpnlmkecleaaGreatDoorEdK
namespace Go.Proofs.YtokjpnlmkecleaaGreatDoor
open Go.RowKit

set_option maxRecDepth 10000 in
set_option maxHeartbeats 4000000 in
theorem l4Undone_no (a b c : ByteArray) (v : Value) (n : Nat) (tx hf : Nat → ByteArray) (w : World) (hv : Row2At w v n (fun j => .string (tx j)) (fun j => .string (hf j))) (hn : n ≤ 50) (hz : n = 0) :
    Calls Tryz.prog 40 #[.agg #[.string a, .string b, .string c, v]] w fun e w' => ∃ v', e = .returned (.tuple #[.agg #[.string a, .string b, .string c, v'], .int .i64 2]) ∧ Own2 w' w.heap.size 49 v' 0 (fun j => .string (tx j)) (fun j => .string (hf j)) ∧ Ext w w' := by
  have HZ := hide hz
  clear hz
  have infoL : (Tryz.prog.info? 25).map (·.size) = some 4 := by kernel_rfl
  have HC := hide (fun W (E : Ext w W) => l4Copy_any a b c v n tx hf W (hv.ext E) (by omega))
  obtain ⟨ao, ca, rfl, _, _⟩ := hv
  obtain ⟨V, hV⟩ : ∃ V, V = (w.alloc (.cells #[.string a, .string b, .string c, .slice ao n ca] 25)).alloc (.cells #[.string { data := #[] }, .string { data := #[] }, .string { data := #[] }, .slice none 0 0] 25) := ⟨_, rfl⟩
  have E0 : Ext w V := by rw [hV]; exact ((Ext.refl w).alloc _).alloc _
  have HB1 : Hid (V.heap[w.heap.size + 1]? = some (.cells #[.string { data := #[] }, .string { data := #[] }, .string { data := #[] }, .slice none 0 0] 25 (0, 0))) := hide (by rw [hV]; have h := new_block (w.alloc (.cells #[.string a, .string b, .string c, .slice ao n ca] 25)) (.cells #[.string { data := #[] }, .string { data := #[] }, .string { data := #[] }, .slice none 0 0] 25); rw [show (w.alloc (.cells #[.string a, .string b, .string c, .slice ao n ca] 25)).heap.size = w.heap.size + 1 by simp] at h; exact h)
  have sz0 : w.heap.size + 1 < V.heap.size := lt_of_block (unhide HB1)
  have HV := hide hV
  clear hV
  go_enter Tryz.func40, Tryz.ntmps40
  go_wp2_with fail
  rw [← unhide HV]
  clear HV
  refine ((unhide HC) _ E0).mono ?_
  rintro e w1 ⟨ua, uc, rfl, HO, E1⟩
  replace HB1 := hide (E1.kept (unhide HB1))
  have HE := hide (E0.trans E1)
  have z1 := E1.size
  have hb1 := lt_of_block (unhide HB1)
  have HN := hide (heap_alloc_new w1 (.cells #[.string { data := #[] }, .string { data := #[] }, .string { data := #[] }, .slice none 0 0] 25))
  clear HC E0 E1
  have hz := unhide HZ
  subst hz
  go_wp2_with (first
    | (refine wpList_store_blk rfl 25 _ _ rfl rfl (w1.heap.size) rfl _ _ _ rfl (unhide HN) infoL rfl (by simp [Value.oneCell']) ?_; intro U hB hU; have hU1 := hU.ext ((Ext.refl w1).alloc _) (fun q hq => by omega); have HEU := hide hU1; have HBU := hide hB; have u3 : U.cell? ⟨w1.heap.size, 3, none⟩ = some (.slice ua 0 uc) := cells_of hB 3 _ rfl; have HB1s := hide (hU1.kept (unhide HB1)); clear hB hU hU1)
    | (refine wpList_load_blk rfl 25 _ rfl (w1.heap.size) rfl _ _ _ _ (unhide HBU) Tryz.underlying25 rfl infoL ?_)
    | (refine wpList_store_blk rfl 25 _ _ rfl rfl (w.heap.size + 1) rfl _ _ _ rfl (unhide HB1s) infoL rfl (by simp [Value.oneCell']) ?_; intro Z hy hf9; have HY := hide hy; have FY := hide hf9; clear hy hf9))
  have v0 : Z.cell? ⟨w.heap.size + 1, 0, none⟩ = some (.string a) := cells_of (unhide HY) 0 _ rfl
  have v1 : Z.cell? ⟨w.heap.size + 1, 1, none⟩ = some (.string b) := cells_of (unhide HY) 1 _ rfl
  have v2 : Z.cell? ⟨w.heap.size + 1, 2, none⟩ = some (.string c) := cells_of (unhide HY) 2 _ rfl
  have v3 : Z.cell? ⟨w.heap.size + 1, 3, none⟩ = some (.slice ua 0 uc) := cells_of (unhide HY) 3 _ rfl
  exact bodyPost_ret (v := .tuple #[.agg #[.string a, .string b, .string c, .slice ua 0 uc], .int .i64 2]) (by simp [results, Tryz.results40, go_sem, v0, v1, v2, v3]) rfl ⟨_, rfl, (((unhide HO).ext (unhide HEU)).fr (unhide FY) (fun g hg e9 => by have := (unhide HO).lt g hg; omega)).mono (by omega), (unhide FY).ext ((unhide HE).trans (unhide HEU)) (fun q hq => by omega)⟩
end Go.Proofs.YtokjpnlmkecleaaGreatDoor

namespace Go.Proofs.YtokjpnlmkecleaaGreatDoor
open Go.RowKit

theorem own2_take {w : World} {base : Nat} {T : TypeId} {g c N : Nat} {A B : Nat → Value} (h : Own2 w base T (.slice (some ⟨g, 0, none⟩) N c) N A B) (m : Nat) (hm : m ≤ N) : Own2 w base T (.slice (some ⟨g, 0, none⟩) m c) m A B := by
  obtain ⟨ys, ⟨h1, h2⟩, h9⟩ := h
  refine ⟨ys.take (m * 2), ⟨by rw [List.length_take]; omega, ?_⟩, fun j hj => ?_⟩
  · rcases h2 with ⟨e, _⟩ | ⟨g', cap, cur, e, h3, h4, h5, h6, h7, h8⟩
    · simp at e
    · obtain ⟨e1, _, rfl⟩ := Value.slice.inj e
      obtain rfl : g = g' := by simpa using e1
      refine .inr ⟨g, c, cur, rfl, h3, h4, by omega, h6, h7, ?_⟩
      rw [← h8, List.take_take]
      congr 1
      omega
  · rw [List.getElem?_take, List.getElem?_take, if_pos (by omega), if_pos (by omega)]
    exact h9 j (by omega)
set_option maxRecDepth 10000 in
set_option maxHeartbeats 4000000 in
theorem l4Undone_yes (a b c : ByteArray) (v : Value) (un : List (ByteArray × ByteArray)) (w : World) (hv : LnAt w v un) (hn : un.length ≤ 50) (hz : 0 < un.length) :
    Calls Tryz.prog 40 #[.agg #[.string a, .string b, .string c, v]] w fun e w' => LnO w' w.heap.size (edUndo a b c un) e ∧ Ext w w' := by
  have infoL : (Tryz.prog.info? 25).map (·.size) = some 4 := by kernel_rfl
  have HC := hide (fun W (E : Ext w W) => l4Copy_any a b c v un.length (lnT un) (lnH un) W (Row2At.ext hv E) (by omega))
  obtain ⟨ao, ca, rfl, _, _⟩ := hv
  obtain ⟨n, hnn⟩ : ∃ n, un.length = n := ⟨_, rfl⟩
  obtain ⟨p, hp⟩ : ∃ p, n - 1 = p := ⟨_, rfl⟩
  obtain ⟨TA, hTA⟩ : ∃ x, x = lnT un p := ⟨_, rfl⟩
  obtain ⟨TB, hTB⟩ : ∃ x, x = lnH un p := ⟨_, rfl⟩
  have HXO : Hid (edUndo a b c un = ⟨TA, TB, c, un.take p, 1⟩) := hide (by rw [edUndo, if_neg (by omega), hnn, hp, hTA, hTB])
  have HUL := hide hnn
  rw [hnn] at HC hn hz
  have HTA := hide hTA
  have HTB := hide hTB
  have HPN : Hid (p + 1 = n) := hide (by omega)
  have hw1 : IntKind.i64.wrap ((n : Int) - 1) = (p : Int) := by rw [IntKind.wrap_i64]; omega
  have hnI : ¬ (n : Int) = 0 := by omega
  have hnB : ((n : Int) == 0) = false := by simp; omega
  have b1 : (p : Int) < (n : Int) := by omega
  have b2 : (0 : Int) ≤ (p : Int) := by omega
  have h50 : n ≤ 50 := hn
  clear hTA hTB hp hn hz
  rw [hnn]
  clear hnn
  obtain ⟨V, hV⟩ : ∃ V, V = (w.alloc (.cells #[.string a, .string b, .string c, .slice ao n ca] 25)).alloc (.cells #[.string { data := #[] }, .string { data := #[] }, .string { data := #[] }, .slice none 0 0] 25) := ⟨_, rfl⟩
  have E0 : Ext w V := by rw [hV]; exact ((Ext.refl w).alloc _).alloc _
  have HB1 : Hid (V.heap[w.heap.size + 1]? = some (.cells #[.string { data := #[] }, .string { data := #[] }, .string { data := #[] }, .slice none 0 0] 25 (0, 0))) := hide (by rw [hV]; have h := new_block (w.alloc (.cells #[.string a, .string b, .string c, .slice ao n ca] 25)) (.cells #[.string { data := #[] }, .string { data := #[] }, .string { data := #[] }, .slice none 0 0] 25); rw [show (w.alloc (.cells #[.string a, .string b, .string c, .slice ao n ca] 25)).heap.size = w.heap.size + 1 by simp] at h; exact h)
  have sz0 : w.heap.size + 1 < V.heap.size := lt_of_block (unhide HB1)
  have HV := hide hV
  have HCc := hide ((unhide HC) V E0)
  have HE0 := hide E0
  clear hV E0 HC
  go_enter Tryz.func40, Tryz.ntmps40
  go_wp2_with fail
  rw [← unhide HV]
  clear HV
  refine (unhide HCc).mono ?_
  rintro e w1 ⟨ua, uc, rfl, HO, E1⟩
  replace HB1 := hide (E1.kept (unhide HB1))
  have HE := hide ((unhide HE0).trans E1)
  have z1 := E1.size
  have hb1 := lt_of_block (unhide HB1)
  have HN := hide (heap_alloc_new w1 (.cells #[.string { data := #[] }, .string { data := #[] }, .string { data := #[] }, .slice none 0 0] 25))
  clear HCc HE0 E1
  have hcap : n ≤ uc := by
    obtain ⟨a9, c9, e9, h9, _⟩ := (unhide HO).reads
    obtain ⟨_, _, rfl⟩ := Value.slice.inj e9
    exact h9
  obtain ⟨g, rfl⟩ : ∃ g, ua = some ⟨g, 0, none⟩ := by
    rcases (unhide HO).form with ⟨_, h3⟩ | ⟨g, c8, e8⟩
    · have := unhide HPN; omega
    · exact ⟨g, (Value.slice.inj e8).1⟩
  have b3 : (p : Int) ≤ (uc : Int) := by omega
  have hgl := ((unhide HO).lt g rfl)
  obtain ⟨G, hG⟩ : ∃ G, G = w1.heap.size := ⟨_, rfl⟩
  have hGw : w.heap.size + 1 < G := by omega
  have HGg : Hid (g ≠ G) := hide (by omega)
  have HG := hide hG
  clear hG hcap
  go_wp2_with (first
    | (refine wpList_store_blk rfl 25 _ _ rfl rfl (w1.heap.size) rfl _ _ _ rfl (unhide HN) infoL rfl (by simp [Value.oneCell']) ?_; intro U hB hU; have hU1 := hU.ext ((Ext.refl w1).alloc _) (fun q hq => by omega); rw [← unhide HG] at hB; have HEU := hide hU1; have HOU := hide ((unhide HO).ext hU1); have HBU := hide hB; have HB1U := hide (hU1.kept (unhide HB1)); clear hB hU hU1; refine StopQ.intro ?_))
  show wpList _ _ _ _ _ _
  rw [← unhide HG]
  have u3 : U.cell? ⟨G, 3, none⟩ = some (.slice (some ⟨g, 0, none⟩) n uc) := cells_of (unhide HBU) 3 _ rfl
  have u0 : U.cell? ⟨G, 0, none⟩ = some (.string a) := cells_of (unhide HBU) 0 _ rfl
  have fu : ∀ i, U.frozen? ⟨G, i, none⟩ = false := fun i => Lib.frozen_of_heap (unhide HBU) i
  have r0 : U.cell? ⟨g, p * 2, none⟩ = some (.string TA) := by rw [unhide HTA]; exact ((unhide HOU).cell (show p < n by have := unhide HPN; omega)).1.1
  go_upto_region 6 with fail
  have F1 : Fr (fun q => q = G) U (U.setCell ⟨G, 0, none⟩ (.string TA)) := Fr.setCell (S := fun q => q = G) (Fr.refl _ U) (a := ⟨G, 0, none⟩) rfl _
  have HB5 := hide (set_blk2 (i := 0) (v := .string TA) (cs' := #[.string TA, .string b, .string c, .slice (some ⟨g, 0, none⟩) n uc]) (unhide HBU) rfl)
  obtain ⟨X1, hX1⟩ : ∃ X1, X1 = U.setCell ⟨G, 0, none⟩ (.string TA) := ⟨_, rfl⟩
  rw [← hX1] at F1 HB5 ⊢
  have HF1 := hide F1
  have HO1 := hide ((unhide HOU).fr F1 (fun q hq e9 => by
    have e : q = g := by simpa [Value.ownBlock] using hq.symm
    exact (unhide HGg) (by rw [← e]; exact e9)))
  clear hX1 F1 u0 u3 fu r0
  have u3 : X1.cell? ⟨G, 3, none⟩ = some (.slice (some ⟨g, 0, none⟩) n uc) := cells_of (unhide HB5) 3 _ rfl
  have u1 : X1.cell? ⟨G, 1, none⟩ = some (.string b) := cells_of (unhide HB5) 1 _ rfl
  have fu : ∀ i, X1.frozen? ⟨G, i, none⟩ = false := fun i => Lib.frozen_of_heap (unhide HB5) i
  have r1 : X1.cell? ⟨g, p * 2 + 1, none⟩ = some (.string TB) := by rw [unhide HTB]; exact ((unhide HO1).cell (show p < n by have := unhide HPN; omega)).2.1
  go_upto_region 7 with fail
  have F2 : Fr (fun q => q = G) X1 (X1.setCell ⟨G, 1, none⟩ (.string TB)) := Fr.setCell (S := fun q => q = G) (Fr.refl _ X1) (a := ⟨G, 1, none⟩) rfl _
  have HB6 := hide (set_blk2 (i := 1) (v := .string TB) (cs' := #[.string TA, .string TB, .string c, .slice (some ⟨g, 0, none⟩) n uc]) (unhide HB5) rfl)
  obtain ⟨X2, hX2⟩ : ∃ X2, X2 = X1.setCell ⟨G, 1, none⟩ (.string TB) := ⟨_, rfl⟩
  rw [← hX2] at F2 HB6 ⊢
  have HF2 := hide ((unhide HF1).tr F2)
  clear hX2 F2 u1 u3 fu r1
  have u3 : X2.cell? ⟨G, 3, none⟩ = some (.slice (some ⟨g, 0, none⟩) n uc) := cells_of (unhide HB6) 3 _ rfl
  have fu : ∀ i, X2.frozen? ⟨G, i, none⟩ = false := fun i => Lib.frozen_of_heap (unhide HB6) i
  have HBs := hide (set_blk2 (i := 3) (v := .slice (some ⟨g, 0, none⟩) p uc) (cs' := #[.string TA, .string TB, .string c, .slice (some ⟨g, 0, none⟩) p uc]) (unhide HB6) rfl)
  have F3 := (unhide HF2).setCell (a := ⟨G, 3, none⟩) rfl (.slice (some ⟨g, 0, none⟩) p uc)
  have HF3 := hide F3
  have HB1s := hide (F3.kept (unhide HB1U) (by omega))
  clear F3
  go_wp2_with (first
    | (refine wpList_load_blk rfl 25 _ rfl G rfl _ _ _ _ (unhide HBs) Tryz.underlying25 rfl infoL ?_)
    | (refine wpList_store_blk rfl 25 _ _ rfl rfl (w.heap.size + 1) rfl _ _ _ rfl (unhide HB1s) infoL rfl (by simp [Value.oneCell']) ?_; intro Z hy hf9; have HY := hide hy; have FY := hide hf9; clear hy hf9))
  have v0 : Z.cell? ⟨w.heap.size + 1, 0, none⟩ = some (.string TA) := cells_of (unhide HY) 0 _ rfl
  have v1 : Z.cell? ⟨w.heap.size + 1, 1, none⟩ = some (.string TB) := cells_of (unhide HY) 1 _ rfl
  have v2 : Z.cell? ⟨w.heap.size + 1, 2, none⟩ = some (.string c) := cells_of (unhide HY) 2 _ rfl
  have v3 : Z.cell? ⟨w.heap.size + 1, 3, none⟩ = some (.slice (some ⟨g, 0, none⟩) p uc) := cells_of (unhide HY) 3 _ rfl
  have FZ : Fr (fun q => q = G ∨ q = w.heap.size + 1) U Z := ((unhide HF3).mono (fun q hq => .inl hq)).tr ((unhide FY).mono (fun q hq => .inr hq))
  have hO := (unhide HOU).fr FZ (fun q hq e9 => by
    have e : q = g := by simpa [Value.ownBlock] using hq.symm
    rcases e9 with e9 | e9
    · exact (unhide HGg) (by rw [← e]; exact e9)
    · omega)
  have hpl : (un.take p).length = p := by rw [List.length_take, unhide HUL]; have := unhide HPN; omega
  have hO2 : Own2 Z w.heap.size 49 (.slice (some ⟨g, 0, none⟩) p uc) (un.take p).length (fun j => .string (lnT (un.take p) j)) (fun j => .string (lnH (un.take p) j)) := by
    rw [hpl]
    refine ((own2_take hO p (by have := unhide HPN; omega)).mono (by omega)).congr (fun j hj => ?_)
    simp [lnT, lnH, hj]
  exact bodyPost_ret (v := .tuple #[.agg #[.string TA, .string TB, .string c, .slice (some ⟨g, 0, none⟩) p uc], .int .i64 1]) (by simp [results, Tryz.results40, go_sem, v0, v1, v2, v3]) rfl (by rw [unhide HXO]; exact ⟨⟨_, rfl, hO2⟩, FZ.ext ((unhide HE).trans (unhide HEU)) (fun q hq => by omega)⟩)
end Go.Proofs.YtokjpnlmkecleaaGreatDoor

namespace Go.Proofs.YtokjpnlmkecleaaGreatDoor
open Go.RowKit

/-- What a key does that the session takes care of. -/
def handF (kd : Int) : Int := if kd = 3 then 3 else if kd = 21 then 4 else if kd = 10 then 5 else if kd = 11 then 6 else if kd = 20 then 7 else 0
set_option maxRecDepth 10000 in
set_option maxHeartbeats 4000000 in
theorem l4Handed_any (kd : Int) (w : World) :
    Calls Tryz.prog 41 #[.int .i64 kd] w fun e w' => e = .returned (.int .i64 (handF kd)) ∧ Ext w w' := by
  obtain ⟨V, hV⟩ : ∃ V, V = w.alloc (.cells #[.int .i64 3, .int .i64 21, .int .i64 10, .int .i64 11, .int .i64 20] 3) := ⟨_, rfl⟩
  have E0 : Ext w V := by rw [hV]; exact (Ext.refl w).alloc _
  have hb : V.heap[w.heap.size]? = some (.cells #[.int .i64 3, .int .i64 21, .int .i64 10, .int .i64 11, .int .i64 20] 3 (0, 0)) := by rw [hV]; exact new_block w _
  have k0 : V.cell? ⟨w.heap.size, 0, none⟩ = some (.int .i64 3) := cells_of hb 0 _ rfl
  have k1 : V.cell? ⟨w.heap.size, 1, none⟩ = some (.int .i64 21) := cells_of hb 1 _ rfl
  have k2 : V.cell? ⟨w.heap.size, 2, none⟩ = some (.int .i64 10) := cells_of hb 2 _ rfl
  have k3 : V.cell? ⟨w.heap.size, 3, none⟩ = some (.int .i64 11) := cells_of hb 3 _ rfl
  have k4 : V.cell? ⟨w.heap.size, 4, none⟩ = some (.int .i64 20) := cells_of hb 4 _ rfl
  have HE := hide E0
  have HV := hide hV
  clear hb hV E0
  go_enter Tryz.func41, Tryz.ntmps41
  go_wp2
  rw [← unhide HV]
  clear HV
  go_loopw [4] (fun i wr => ∃ j : Nat, j ≤ 5 ∧ i = .int .i64 j ∧ Hid (wr = V) ∧ Hid ((0 < j → kd ≠ 3) ∧ (1 < j → kd ≠ 21) ∧ (2 < j → kd ≠ 10) ∧ (3 < j → kd ≠ 11) ∧ (4 < j → kd ≠ 20))) (fun i _ => 5 - (intOf i).toNat)
  case atStart => exact ⟨0, Nat.zero_le _, rfl, hide rfl, hide ⟨by omega, by omega, by omega, by omega, by omega⟩⟩
  case round =>
    obtain ⟨j, hj, rfl, HV2, HK⟩ := hrel
    have hV2 := unhide HV2
    subst hV2
    clear HV2
    have : j = 0 ∨ j = 1 ∨ j = 2 ∨ j = 3 ∨ j = 4 ∨ j = 5 := by omega
    rcases this with rfl | rfl | rfl | rfl | rfl | rfl
    · by_cases hk : kd = 3
      · subst hk
        go_wp2
        exact bodyPost_ret (v := .int .i64 3) (by simp [results, Tryz.results41, go_sem]) rfl ⟨rfl, unhide HE⟩
      · have hk2 : ¬ 3 = kd := fun e => hk e.symm
        have HKs : Hid ((0 < 1 → kd ≠ 3) ∧ (1 < 1 → kd ≠ 21) ∧ (2 < 1 → kd ≠ 10) ∧ (3 < 1 → kd ≠ 11) ∧ (4 < 1 → kd ≠ 20)) := hide (by
          obtain ⟨m0, m1, m2, m3, m4⟩ := unhide HK
          exact ⟨fun _ => hk, fun h => absurd h (by omega), fun h => absurd h (by omega), fun h => absurd h (by omega), fun h => absurd h (by omega)⟩)
        clear HK
        go_wp2
        go_roundw
        case rel => exact ⟨1, by omega, by go_num, (by first | exact hide rfl | exact hide trivial), HKs⟩
        case measure => simp [intOf]
    · by_cases hk : kd = 21
      · subst hk
        go_wp2
        exact bodyPost_ret (v := .int .i64 4) (by simp [results, Tryz.results41, go_sem]) rfl ⟨rfl, unhide HE⟩
      · have hk2 : ¬ 21 = kd := fun e => hk e.symm
        have HKs : Hid ((0 < 2 → kd ≠ 3) ∧ (1 < 2 → kd ≠ 21) ∧ (2 < 2 → kd ≠ 10) ∧ (3 < 2 → kd ≠ 11) ∧ (4 < 2 → kd ≠ 20)) := hide (by
          obtain ⟨m0, m1, m2, m3, m4⟩ := unhide HK
          exact ⟨fun _ => m0 (by omega), fun _ => hk, fun h => absurd h (by omega), fun h => absurd h (by omega), fun h => absurd h (by omega)⟩)
        clear HK
        go_wp2
        go_roundw
        case rel => exact ⟨2, by omega, by go_num, (by first | exact hide rfl | exact hide trivial), HKs⟩
        case measure => simp [intOf]
    · by_cases hk : kd = 10
      · subst hk
        go_wp2
        exact bodyPost_ret (v := .int .i64 5) (by simp [results, Tryz.results41, go_sem]) rfl ⟨rfl, unhide HE⟩
      · have hk2 : ¬ 10 = kd := fun e => hk e.symm
        have HKs : Hid ((0 < 3 → kd ≠ 3) ∧ (1 < 3 → kd ≠ 21) ∧ (2 < 3 → kd ≠ 10) ∧ (3 < 3 → kd ≠ 11) ∧ (4 < 3 → kd ≠ 20)) := hide (by
          obtain ⟨m0, m1, m2, m3, m4⟩ := unhide HK
          exact ⟨fun _ => m0 (by omega), fun _ => m1 (by omega), fun _ => hk, fun h => absurd h (by omega), fun h => absurd h (by omega)⟩)
        clear HK
        go_wp2
        go_roundw
        case rel => exact ⟨3, by omega, by go_num, (by first | exact hide rfl | exact hide trivial), HKs⟩
        case measure => simp [intOf]
    · by_cases hk : kd = 11
      · subst hk
        go_wp2
        exact bodyPost_ret (v := .int .i64 6) (by simp [results, Tryz.results41, go_sem]) rfl ⟨rfl, unhide HE⟩
      · have hk2 : ¬ 11 = kd := fun e => hk e.symm
        have HKs : Hid ((0 < 4 → kd ≠ 3) ∧ (1 < 4 → kd ≠ 21) ∧ (2 < 4 → kd ≠ 10) ∧ (3 < 4 → kd ≠ 11) ∧ (4 < 4 → kd ≠ 20)) := hide (by
          obtain ⟨m0, m1, m2, m3, m4⟩ := unhide HK
          exact ⟨fun _ => m0 (by omega), fun _ => m1 (by omega), fun _ => m2 (by omega), fun _ => hk, fun h => absurd h (by omega)⟩)
        clear HK
        go_wp2
        go_roundw
        case rel => exact ⟨4, by omega, by go_num, (by first | exact hide rfl | exact hide trivial), HKs⟩
        case measure => simp [intOf]
    · by_cases hk : kd = 20
      · subst hk
        go_wp2
        exact bodyPost_ret (v := .int .i64 7) (by simp [results, Tryz.results41, go_sem]) rfl ⟨rfl, unhide HE⟩
      · have hk2 : ¬ 20 = kd := fun e => hk e.symm
        have HKs : Hid ((0 < 5 → kd ≠ 3) ∧ (1 < 5 → kd ≠ 21) ∧ (2 < 5 → kd ≠ 10) ∧ (3 < 5 → kd ≠ 11) ∧ (4 < 5 → kd ≠ 20)) := hide (by
          obtain ⟨m0, m1, m2, m3, m4⟩ := unhide HK
          exact ⟨fun _ => m0 (by omega), fun _ => m1 (by omega), fun _ => m2 (by omega), fun _ => m3 (by omega), fun _ => hk⟩)
        clear HK
        go_wp2
        go_roundw
        case rel => exact ⟨5, by omega, by go_num, (by first | exact hide rfl | exact hide trivial), HKs⟩
        case measure => simp [intOf]
    · have hh : handF kd = 0 := by
        obtain ⟨m0, m1, m2, m3, m4⟩ := unhide HK
        simp [handF, m0 (by omega), m1 (by omega), m2 (by omega), m3 (by omega), m4 (by omega)]

      clear HK
      go_wp2
      exact bodyPost_ret (v := .int .i64 0) (by simp [results, Tryz.results41, go_sem]) rfl ⟨by rw [hh], unhide HE⟩
end Go.Proofs.YtokjpnlmkecleaaGreatDoor

namespace Go.Proofs.YtokjpnlmkecleaaGreatDoor
open Go.RowKit

theorem wdL_le (cs : List (List Int × Int)) : wdL cs ≤ cs.length := (wd_ex (fun j => spB (cR cs (cs.length - 1 - j))) cs.length).le
theorem wdR_le (cs : List (List Int × Int)) : wdR cs ≤ cs.length := (wd_ex (fun j => spB (cR cs j)) cs.length).le
theorem flat_ge (xs : List Int) : xs.length ≤ (flat (clusC xs)).length := by
  rw [flat_clus, fl]
  by_cases h : xs.map shownI = []
  · rw [if_pos h]
    have := congrArg List.length h
    simp at this
    simp [this]
  · rw [if_neg h]
    by_cases h2 : 0 < wid (at0 (xs.map shownI) 0)
    · rw [if_pos h2]; simp
    · rw [if_neg h2]; simp
theorem baL_nil {b : ByteArray} (h : baL b = []) : b = { data := #[] } := by
  rw [← toBA_baL b, h]
  rfl
section
variable {a b c : ByteArray} {un : List (ByteArray × ByteArray)} {w : World}
theorem killed_no (W : World) (u : Value) (l r : ByteArray) (hv : LnAt W u un) (hn : un.length ≤ 50) :
    Calls Tryz.prog 34 #[.agg #[.string a, .string b, .string c, u], .string { data := #[] }, .string l, .string r] W fun e w' => LnO w' W.heap.size ⟨a, b, c, un, 2⟩ e ∧ Ext W w' := by
  refine (l4Killed_no a b c l r u un.length (lnT un) (lnH un) W hv hn).mono ?_
  rintro e w' ⟨v', rfl, o, E⟩
  exact ⟨⟨v', rfl, o⟩, E⟩
theorem killed_yes (W : World) (u : Value) (t l r : ByteArray) (ht : t.toList ≠ []) (hv : LnAt W u un) (hn : un.length ≤ 50) :
    Calls Tryz.prog 34 #[.agg #[.string a, .string b, .string c, u], .string t, .string l, .string r] W fun e w' => LnO w' W.heap.size ⟨l, r, t, undoN un (a, b), 1⟩ e ∧ Ext W w' := by
  have h := l4Killed_yes a b c t l r ht u un.length (lnT un) (lnH un) W hv hn
  rw [unL_ln] at h
  refine h.mono ?_
  rintro e w' ⟨v', rfl, o, E⟩
  exact ⟨⟨v', rfl, o⟩, E⟩
theorem ba_ne {t : ByteArray} (h : baL t ≠ []) : t.toList ≠ [] := by
  intro e
  have h8 := toBA_some h
  rw [toBA_baL, e] at h8
  simp at h8
end
set_option maxHeartbeats 1000000 in
theorem specEdit_yes (a b c : ByteArray) (v : Value) (un : List (ByteArray × ByteArray)) (ra : Option Addr) (rn rc : Nat) (w : World) (hv : LnAt w v un) (ha : a.size ≤ 1048576) (hb : b.size ≤ 1048576) (hc : c.size ≤ 1048576) (hx : ∀ j, j < un.length → (lnT un j).size ≤ 1048576 ∧ (lnH un j).size ≤ 1048576) (kd : Int) (rs : List Int) (hr : IntsAt w .i32 (.slice ra rn rc) rs) (iR : I32s rs) (hP : LineP a b c un.length (lnT un) (lnH un)) :
    Calls Tryz.prog 9 #[.agg #[.string a, .string b, .string c, v], .agg #[.int .i64 kd, .slice ra rn rc]] w fun e w' => LnO w' w.heap.size (edF a b c un kd rs) e ∧ Ext w w' := by
  have hn : un.length ≤ 50 := hP.1
  have hn2 : un.length ≤ 1048576 := by omega
  have sa : settleL (baL a) = baL a := hP.2.1.1
  have sb : settleL (baL b) = baL b := hP.2.1.2.1
  have cA := cut_nil sa
  have cB := cut_nil sb
  have lA := cutC_len (baL a)
  have lB := cutC_len (baL b)
  rw [baL_len] at lA lB
  have na : (cleanL (baL a)).length ≤ 300 := by have := hP.2.1.2.2; omega
  have put : ∀ W u, Ext w W → LnAt W u un → Calls Tryz.prog 32 #[.agg #[.string a, .string b, .string c, u], .slice ra rn rc] W fun e w' => LnO w' W.heap.size (edPut a b c un rs) e ∧ Ext W w' := by
    intro W u E hu
    unfold edPut
    by_cases h0 : rs.length = 0
    · rw [if_pos h0]
      exact l4Put_zero a b c u un _ rs W hu hn ha hb (hr.ext E) h0
    rw [if_neg h0]
    have hg := flat_ge (cleanL (baL a) ++ rs)
    rw [List.length_append] at hg
    by_cases h1 : 300 < rs.length
    · rw [if_pos (by omega)]
      exact l4Put_big a b c u un _ rs W hu hn ha hb (hr.ext E) h1
    by_cases h2 : 300 < (flat (clusC (cleanL (baL a) ++ rs))).length + (cleanL (baL b)).length
    · rw [if_pos h2]
      exact l4Put_bell a b c u un _ rs W hu hn ha hb (hr.ext E) iR ⟨by omega, by omega⟩ na h2
    · rw [if_neg h2]
      exact l4Put_yes a b c u un _ rs W hu hn ha hb (hr.ext E) iR ⟨by omega, by omega⟩ na h2
  have none : ∀ k : Int, ¬ k = 6 → ¬ k = 7 → ¬ k = 8 → ¬ k = 9 → ¬ k = 18 → ¬ k = 19 → ∀ W u, Ext w W → LnAt W u un → Calls Tryz.prog 31 #[.agg #[.string a, .string b, .string c, u], .int .i64 k] W fun e w' => e = .returned (.tuple #[.agg #[.string a, .string b, .string c, u], .int .i64 (-1)]) ∧ Ext W w' :=
    fun k h6 h7 h8 h9 h18 h19 W u _ hu => l4Moved_none a b c u un W hu ha hb k h6 h7 h8 h9 h18 h19
  by_cases h1 : kd = 1
  · subst h1
    rw [show edF a b c un 1 rs = edPut a b c un rs by simp [edF]]
    exact specEdit_1 a b c v un ra rn rc w hv ha hb hc hn2 hx hP _ (none 1 (by omega) (by omega) (by omega) (by omega) (by omega) (by omega)) put
  by_cases h2 : kd = 2
  · subst h2
    rw [show edF a b c un 2 rs = edPut a b c un rs by simp [edF]]
    exact specEdit_2 a b c v un ra rn rc w hv ha hb hc hn2 hx hP _ (none 2 (by omega) (by omega) (by omega) (by omega) (by omega) (by omega)) put
  by_cases h4 : kd = 4
  · subst h4
    rw [show edF a b c un 4 rs = edBack a b c un by simp [edF]]
    refine specEdit_4 a b c v un ra rn rc w hv ha hb hc hn2 hx hP _ (none 4 (by omega) (by omega) (by omega) (by omega) (by omega) (by omega)) (fun W u E hu => ?_)
    unfold edBack
    by_cases h : (cutC (baL a)).length = 0
    · rw [if_pos h]
      exact l4Gone_4_no a b c u un W hu hn ha hb h
    · rw [if_neg h]
      exact l4Gone_4_yes a b c u un W hu hn ha hb (by omega)
  by_cases h5 : kd = 5
  · subst h5
    rw [show edF a b c un 5 rs = edDel a b c un by simp [edF]]
    refine specEdit_5 a b c v un ra rn rc w hv ha hb hc hn2 hx hP _ (none 5 (by omega) (by omega) (by omega) (by omega) (by omega) (by omega)) (fun W u E hu => ?_)
    unfold edDel
    by_cases h : (cutC (baL b)).length = 0
    · rw [if_pos h]
      by_cases h9 : (cutC (baL a)).length = 0
      · rw [if_pos h9]
        exact l4Gone_5_end a b c u un W hu hn ha hb ⟨h9, h⟩
      · rw [if_neg h9]
        exact l4Gone_5_no a b c u un W hu hn ha hb ⟨by omega, h⟩
    · rw [if_neg h]
      exact l4Gone_5_yes a b c u un W hu hn ha hb (by omega)
  by_cases h6 : kd = 6
  · subst h6
    rw [show edF a b c un 6 rs = edLeft a b c un by simp [edF]]
    unfold edLeft
    by_cases h : (cutC (baL a)).length = 0
    · rw [if_pos h]
      refine specEdit_moved a b c v un ra rn rc w hv ha hb hc hn2 hx 6 hP _ (by show (0 : Int) ≤ 2; decide) (fun W u E hu => ?_)
      exact l4Moved_6_no a b c u un W hu ha hb a b (-1) ⟨by rw [h]; rfl, by decide⟩ (fun W2 u2 E2 hu2 => l4Move_out a b c u2 un W2 hu2 hn ha hb _ (.inl (by decide)))
    · rw [if_neg h]
      refine specEdit_moved a b c v un ra rn rc w hv ha hb hc hn2 hx 6 hP _ (by show (0 : Int) ≤ 1; decide) (fun W u E hu => ?_)
      exact l4Moved_6_yes a b c u un W hu ha hb _ _ (((cutC (baL a)).length - 1 : Nat) : Int) ⟨by rw [IntKind.wrap_i64]; omega, by omega⟩ (fun W2 u2 E2 hu2 => l4Move_go a b c u2 un W2 hu2 hn ha hb _ _ ⟨rfl, by omega, by omega⟩)
  by_cases h7 : kd = 7
  · subst h7
    rw [show edF a b c un 7 rs = edRight a b c un by simp [edF]]
    unfold edRight
    by_cases h : (cutC (baL b)).length = 0
    · rw [if_pos h]
      refine specEdit_moved a b c v un ra rn rc w hv ha hb hc hn2 hx 7 hP _ (by show (0 : Int) ≤ 2; decide) (fun W u E hu => ?_)
      exact l4Moved_7_no a b c u un W hu ha hb a b (((cutC (baL a)).length + 1 : Nat) : Int) ⟨by rw [IntKind.wrap_i64]; omega, by omega⟩ (fun W2 u2 E2 hu2 => l4Move_out a b c u2 un W2 hu2 hn ha hb _ (.inr (by omega)))
    · rw [if_neg h]
      refine specEdit_moved a b c v un ra rn rc w hv ha hb hc hn2 hx 7 hP _ (by show (0 : Int) ≤ 1; decide) (fun W u E hu => ?_)
      exact l4Moved_7_yes a b c u un W hu ha hb _ _ (((cutC (baL a)).length + 1 : Nat) : Int) ⟨by rw [IntKind.wrap_i64]; omega, by omega⟩ (fun W2 u2 E2 hu2 => l4Move_go a b c u2 un W2 hu2 hn ha hb _ _ ⟨rfl, by omega, by omega⟩)
  by_cases h8 : kd = 8
  · subst h8
    rw [show edF a b c un 8 rs = edHome a b c un by simp [edF]]
    unfold edHome
    by_cases h : (cutC (baL a)).length = 0
    · rw [if_pos h]
      refine specEdit_moved a b c v un ra rn rc w hv ha hb hc hn2 hx 8 hP _ (by show (0 : Int) ≤ 0; decide) (fun W u E hu => ?_)
      exact l4Moved_8_no a b c u un W hu ha hb a b (fun W2 u2 E2 hu2 => l4Move_stay a b c u2 un W2 hu2 hn ha hb _ ⟨by rw [h]; rfl, by omega⟩)
    · rw [if_neg h]
      refine specEdit_moved a b c v un ra rn rc w hv ha hb hc hn2 hx 8 hP _ (by show (0 : Int) ≤ 1; decide) (fun W u E hu => ?_)
      exact l4Moved_8_yes a b c u un W hu ha hb _ _ (fun W2 u2 E2 hu2 => l4Move_go a b c u2 un W2 hu2 hn ha hb _ 0 ⟨rfl, by omega, by omega⟩)
  by_cases h9 : kd = 9
  · subst h9
    rw [show edF a b c un 9 rs = edEnd a b c un by simp [edF]]
    unfold edEnd
    by_cases h : (cutC (baL b)).length = 0
    · rw [if_pos h]
      refine specEdit_moved a b c v un ra rn rc w hv ha hb hc hn2 hx 9 hP _ (by show (0 : Int) ≤ 0; decide) (fun W u E hu => ?_)
      exact l4Moved_9_no a b c u un W hu ha hb a b (((cutC (baL a)).length : Nat) : Int) ⟨by rw [h, IntKind.wrap_i64]; omega, by omega⟩ (fun W2 u2 E2 hu2 => l4Move_stay a b c u2 un W2 hu2 hn ha hb _ ⟨rfl, by omega⟩)
    · rw [if_neg h]
      refine specEdit_moved a b c v un ra rn rc w hv ha hb hc hn2 hx 9 hP _ (by show (0 : Int) ≤ 1; decide) (fun W u E hu => ?_)
      exact l4Moved_9_yes a b c u un W hu ha hb _ _ (((cutC (baL a)).length + (cutC (baL b)).length : Nat) : Int) ⟨by rw [IntKind.wrap_i64]; omega, by omega⟩ (fun W2 u2 E2 hu2 => l4Move_go a b c u2 un W2 hu2 hn ha hb _ _ ⟨rfl, by omega, by omega⟩)
  by_cases h18 : kd = 18
  · subst h18
    rw [show edF a b c un 18 rs = edWl a b c un by simp [edF]]
    unfold edWl
    have hw := wdL_le (cutC (baL a))
    by_cases h : wdL (cutC (baL a)) = 0
    · rw [if_pos h]
      refine specEdit_moved a b c v un ra rn rc w hv ha hb hc hn2 hx 18 hP _ (by show (0 : Int) ≤ 2; decide) (fun W u E hu => ?_)
      exact l4Moved_18_no a b c u un W hu ha hb a b _ ⟨rfl, by omega⟩ (fun W2 u2 E2 hu2 => l4Move_stay a b c u2 un W2 hu2 hn ha hb _ ⟨by rw [h]; rfl, by omega⟩)
    · rw [if_neg h]
      refine specEdit_moved a b c v un ra rn rc w hv ha hb hc hn2 hx 18 hP _ (by show (0 : Int) ≤ 1; decide) (fun W u E hu => ?_)
      exact l4Moved_18_yes a b c u un W hu ha hb _ _ _ ⟨rfl, by omega⟩ (fun W2 u2 E2 hu2 => l4Move_go a b c u2 un W2 hu2 hn ha hb _ _ ⟨rfl, by omega, by omega⟩)
  by_cases h19 : kd = 19
  · subst h19
    rw [show edF a b c un 19 rs = edWr a b c un by simp [edF]]
    unfold edWr
    have hw := wdR_le (cutC (baL b))
    by_cases h : wdR (cutC (baL b)) = 0
    · rw [if_pos h]
      refine specEdit_moved a b c v un ra rn rc w hv ha hb hc hn2 hx 19 hP _ (by show (0 : Int) ≤ 2; decide) (fun W u E hu => ?_)
      exact l4Moved_19_no a b c u un W hu ha hb a b (((cutC (baL a)).length : Nat) : Int) ⟨by rw [h, IntKind.wrap_i64]; omega, by omega⟩ (fun W2 u2 E2 hu2 => l4Move_stay a b c u2 un W2 hu2 hn ha hb _ ⟨rfl, by omega⟩)
    · rw [if_neg h]
      refine specEdit_moved a b c v un ra rn rc w hv ha hb hc hn2 hx 19 hP _ (by show (0 : Int) ≤ 1; decide) (fun W u E hu => ?_)
      exact l4Moved_19_yes a b c u un W hu ha hb _ _ (((cutC (baL a)).length + wdR (cutC (baL b)) : Nat) : Int) ⟨by rw [IntKind.wrap_i64]; omega, by omega⟩ (fun W2 u2 E2 hu2 => l4Move_go a b c u2 un W2 hu2 hn ha hb _ _ ⟨rfl, by omega, by omega⟩)
  by_cases h12 : kd = 12
  · subst h12
    rw [show edF a b c un 12 rs = edKe a b c un by simp [edF]]
    refine specEdit_12 a b c v un ra rn rc w hv ha hb hc hn2 hx hP _ (none 12 (by omega) (by omega) (by omega) (by omega) (by omega) (by omega)) (fun W u E hu => ?_)
    unfold edKe
    by_cases h : (cutC (baL b)).length = 0
    · rw [if_pos h]
      obtain rfl := baL_nil (cB.1 h)
      exact killed_no W u _ _ hu hn
    · rw [if_neg h]
      exact killed_yes W u _ _ _ (ba_ne (fun e => h (cB.2 e))) hu hn
  by_cases h13 : kd = 13
  · subst h13
    rw [show edF a b c un 13 rs = edKs a b c un by simp [edF]]
    refine specEdit_13 a b c v un ra rn rc w hv ha hb hc hn2 hx hP _ (none 13 (by omega) (by omega) (by omega) (by omega) (by omega) (by omega)) (fun W u E hu => ?_)
    unfold edKs
    by_cases h : (cutC (baL a)).length = 0
    · rw [if_pos h]
      obtain rfl := baL_nil (cA.1 h)
      exact killed_no W u _ _ hu hn
    · rw [if_neg h]
      exact killed_yes W u _ _ _ (ba_ne (fun e => h (cA.2 e))) hu hn
  by_cases h14 : kd = 14
  · subst h14
    rw [show edF a b c un 14 rs = edKw a b c un by simp [edF]]
    exact specEdit_14 a b c v un ra rn rc w hv ha hb hc hn2 hx hP (none 14 (by omega) (by omega) (by omega) (by omega) (by omega) (by omega)) hn
  by_cases h15 : kd = 15
  · subst h15
    rw [show edF a b c un 15 rs = edYank a b c un by simp [edF]]
    by_cases h : (baL c).length = 0
    · obtain rfl := baL_nil (List.eq_nil_of_length_eq_zero h)
      exact specEdit_15z a b v un ra rn rc w hv ha hb hn2 hx hP (none 15 (by omega) (by omega) (by omega) (by omega) (by omega) (by omega)) hn
    by_cases hl : 300 < (cleanL (baL a)).length + (cleanL (baL c)).length + (cleanL (baL b)).length
    · exact specEdit_15b a b c v un ra rn rc w hv ha hb hc hn2 hx hP (none 15 (by omega) (by omega) (by omega) (by omega) (by omega) (by omega)) hn h hl
    · exact specEdit_15y a b c v un ra rn rc w hv ha hb hc hn2 hx hP (none 15 (by omega) (by omega) (by omega) (by omega) (by omega) (by omega)) hn h hl
  by_cases h16 : kd = 16
  · subst h16
    rw [show edF a b c un 16 rs = edSwap a b c un by simp [edF]]
    refine specEdit_16 a b c v un ra rn rc w hv ha hb hc hn2 hx hP _ (none 16 (by omega) (by omega) (by omega) (by omega) (by omega) (by omega)) (fun W u E hu => ?_)
    unfold edSwap
    by_cases h : 1 ≤ (cutC (baL a)).length ∧ 1 ≤ (cutC (baL b)).length
    · rw [if_pos h]
      exact l4Swapped_mid a b c u un W hu hn ha hb h
    rw [if_neg h]
    by_cases h' : 2 ≤ (cutC (baL a)).length ∧ (cutC (baL b)).length = 0
    · rw [if_pos h']
      exact l4Swapped_end a b c u un W hu hn ha hb h'
    rw [if_neg h']
    by_cases h0 : (cutC (baL a)).length = 0
    · exact l4Swapped_z a b c u un W hu hn ha hb ⟨h0, by omega⟩
    · exact l4Swapped_o a b c u un W hu hn ha hb ⟨by omega, by omega⟩
  by_cases h17 : kd = 17
  · subst h17
    rw [show edF a b c un 17 rs = edUndo a b c un by simp [edF]]
    refine specEdit_17 a b c v un ra rn rc w hv ha hb hc hn2 hx hP _ (none 17 (by omega) (by omega) (by omega) (by omega) (by omega) (by omega)) (fun W u E hu => ?_)
    by_cases h : un.length = 0
    · rw [edUndo, if_pos h]
      refine (l4Undone_no a b c u un.length (lnT un) (lnH un) W hu hn h).mono ?_
      rintro e w' ⟨v', rfl, o, E'⟩
      exact ⟨⟨v', rfl, by show Own2 w' W.heap.size _ v' un.length _ _; rw [h]; exact o⟩, E'⟩
    · exact l4Undone_yes a b c u un W hu hn (by omega)
  have ef : edF a b c un kd rs = ⟨a, b, c, un, handF kd⟩ := by simp [edF, handF, h1, h2, h4, h5, h6, h7, h8, h9, h12, h13, h14, h15, h16, h17, h18, h19]
  rw [ef]
  exact specEdit_other a b c v un ra rn rc w hv ha hb hc hn2 hx kd hP h1 h2 h4 h5 h12 h13 h14 h15 h16 h17 (none kd h6 h7 h8 h9 h18 h19) _ (fun W => l4Handed_any kd W)
end Go.Proofs.YtokjpnlmkecleaaGreatDoor
