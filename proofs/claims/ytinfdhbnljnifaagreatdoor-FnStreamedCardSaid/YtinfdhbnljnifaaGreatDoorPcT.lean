import Derived.Test.YtinfdhbnljnifaaGreatDoorTextOf
import Derived.Test.YtinfdhbnljnifaaGreatDoorSpecClean
import Derived.Test.YtinfdhbnljnifaaGreatDoorRwImpl
import Derived.Lib.OthersKept
import Derived.Test.YtinfdhbnljnifaaGreatDoorSnapMark
import Derived.Deep.RegionHeld
import Derived.Test.YtinfdhbnljnifaaGreatDoorBlocks
namespace Go.Proofs.YtinfdhbnljnifaaGreatDoor
open Go.RowKit
def RdAt (w : World) (D : Nat) (v : Value) (bs : List Int) (p : Nat) : Prop :=
  w.cell? ⟨D, 0, none⟩ = some v ∧ w.cell? ⟨D, 1, none⟩ = some (.int .i64 (p : Int)) ∧ w.frozen? ⟨D, 1, none⟩ = false ∧ IntsAt w .u8 v bs ∧ p ≤ bs.length ∧ (0 < bs.length → ∃ b off n c, v = .slice (some ⟨b, off, none⟩) n c ∧ b ≠ D)
theorem RdAt.ext {w w' : World} {D : Nat} {v : Value} {bs : List Int} {p : Nat} (h : RdAt w D v bs p) (he : Ext w w') : RdAt w' D v bs p :=
  ⟨he.cell h.1, he.cell h.2.1, by rw [he.rules.2 _ _ (lt_of_cell h.1)]; exact h.2.2.1, h.2.2.2.1.ext he, h.2.2.2.2⟩
set_option maxHeartbeats 400000 in
theorem l1Open_any (v : Value) (bs : List Int) (w : World) (hv : IntsAt w .u8 v bs) (hl : bs.length ≤ 16777216) :
    Calls Tryz.prog 32 #[v] w fun e w' => e = .returned (.pointer (some ⟨w.heap.size, 0, none⟩)) ∧ (∃ v', RdAt w' w.heap.size v' (bs.take 1000) 0) ∧ Ext w w' := by
  have HV := hide hv
  obtain ⟨ao, cap, rfl, hcap, hx⟩ := hv
  have HX := hide hx
  clear hx
  by_cases h : 1000 < bs.length
  · have h2 : (1000 : Int) < (bs.length : Int) := by omega
    have h3 : (1000 : Int) ≤ (cap : Int) := by omega
    obtain ⟨b, off, rfl, hc⟩ := (unhide HX) (by omega)
    have HC := hide hc
    clear hc
    go_enter Tryz.func32, Tryz.ntmps32
    go_wp2
    go_ret
    refine ⟨rfl, ⟨.slice (some ⟨b, off, none⟩) 1000 cap, by simp [go_sem], by simp [go_sem], by simp [go_sem], ?_, by simp, fun _ => ⟨b, off, _, _, rfl, ?_⟩⟩, (Ext.refl _).alloc _⟩
    rotate_left
    · have := lt_of_cell ((unhide HC) 0 (by omega))
      omega
    have hlen : (bs.take 1000).length = 1000 := by simp; omega
    refine IntsAt.ext (w := w) ⟨some ⟨b, off, none⟩, cap, by rw [hlen], by omega, fun _ => ⟨b, off, rfl, fun j hj => ?_⟩⟩ ((Ext.refl _).alloc _)
    rw [hlen] at hj
    rw [(unhide HC) j (by omega)]
    simp [at0, hj]
  · have h2 : ¬ (1000 : Int) < (bs.length : Int) := by omega
    have ht : bs.take 1000 = bs := List.take_of_length_le (by omega)
    have HT := hide ht
    clear ht
    go_enter Tryz.func32, Tryz.ntmps32
    go_wp2
    go_ret
    refine ⟨rfl, ⟨.slice ao bs.length cap, by simp [go_sem], by simp [go_sem], by simp [go_sem], ?_, by simp, ?_⟩, (Ext.refl _).alloc _⟩
    · rw [unhide HT]
      exact (unhide HV).ext ((Ext.refl _).alloc _)
    · intro hp
      rw [unhide HT] at hp
      obtain ⟨b, off, rfl, hc⟩ := (unhide HX) hp
      have := lt_of_cell (hc 0 hp)
      exact ⟨b, off, _, _, rfl, by omega⟩
theorem RdAt.step {w : World} {D : Nat} {v : Value} {bs : List Int} {p : Nat} (h : RdAt w D v bs p) (hp : p < bs.length) : RdAt (w.setCell ⟨D, 1, none⟩ (.int .i64 ((p : Int) + 1))) D v bs (p + 1) := by
  obtain ⟨h0, h1, h2, h3, h4, h5⟩ := h
  obtain ⟨b, off, n, c, rfl, hbD⟩ := h5 (by omega)
  refine ⟨by simp [go_sem, h0], World.cell?_setCell_same _ _ _ h1, by simpa [go_sem] using h2, ?_, by omega, h5⟩
  obtain ⟨ao', cap', e4, hcap', hx'⟩ := h3
  refine ⟨ao', cap', e4, hcap', fun hp' => ?_⟩
  obtain ⟨b2, off2, e5, hc2⟩ := hx' hp'
  subst e5
  injection e4 with e6
  injection e6 with e7
  injection e7 with e8
  subst e8
  exact ⟨b, off2, rfl, fun j hj => by rw [World.cell?_setCell_far _ _ _ _ (fun e => hbD e.symm)]; exact hc2 j hj⟩
set_option maxHeartbeats 400000 in
theorem next_any (D : Nat) (v : Value) (bs : List Int) (p : Nat) (w : World) (h : RdAt w D v bs p) (hB : Bytes bs) (hl : bs.length ≤ 16777216) :
    Calls Tryz.prog 33 #[.pointer (some ⟨D, 0, none⟩)] w fun e w' => e = .returned (.int .i64 (at0 bs p)) ∧ RdAt w' D v bs (if p < bs.length then p + 1 else p) ∧ Fr (fun k => k = D) w w' := by
  have HR := hide h
  obtain ⟨h0, h1, h2, h3, h4, h5⟩ := h
  obtain ⟨ao, cap, rfl, hcap, hx⟩ := h3
  clear h5
  by_cases hp : p < bs.length
  · rw [if_pos hp]
    obtain ⟨b, off, rfl, hc⟩ := hx (by omega)
    have c0 := hc p hp
    have hb := hB.at0 p
    obtain ⟨x, hx⟩ : ∃ x, x = at0 bs p := ⟨_, rfl⟩
    rw [← hx] at c0 hb ⊢
    have bp : (p : Int) < (bs.length : Int) := by omega
    clear hc hx
    have hw : IntKind.i64.wrap ((p : Int) + 1) = (p : Int) + 1 := by rw [IntKind.wrap_i64]; omega
    have hw2 : IntKind.i64.wrap x = x := by rw [IntKind.wrap_i64]; omega
    have HP := hide hp
    go_enter Tryz.func33, Tryz.ntmps33
    go_wp2
    go_quiet (fail)
    go_wp2
    go_quiet (fail)
    go_wp2
    go_ret
    refine ⟨rfl, RdAt.step ((unhide HR).ext ?_) (unhide HP), (Fr.of_ext (S := fun k => k = D) ?_).setCell (a := ⟨D, 1, none⟩) rfl _⟩
    all_goals repeat' first | exact Ext.refl _ | refine Ext.drewN ?_ _ | refine Ext.drew ?_
  · rw [if_neg hp]
    have ha : Hid (at0 bs p = 0) := by show _ = _; unfold at0; rw [List.getElem?_eq_none (by omega)]; rfl
    have bp : ¬ (p : Int) < (bs.length : Int) := by omega
    go_enter Tryz.func33, Tryz.ntmps33
    go_wp2
    go_quiet (fail)
    go_wp2
    go_ret
    exact ⟨by rw [ha.out]; rfl, (unhide HR).ext ((Ext.refl _).drewN _), Fr.of_ext ((Ext.refl _).drewN _)⟩
end Go.Proofs.YtinfdhbnljnifaaGreatDoor

namespace Go.Proofs.YtinfdhbnljnifaaGreatDoor
open Go.RowKit
def pieceT : List ByteArray := [{ data := #[97] }, { data := #[98] }, { data := #[32] }, { data := #[99] }, { data := #[228, 184, 150] }, { data := #[204, 129] }, { data := #[195, 169] }, { data := #[120] }, { data := #[240, 159, 152, 128] }, { data := #[45] }, { data := #[255] }, { data := #[9] }, { data := #[226, 128, 141] }, { data := #[228, 184] }, { data := #[111] }, { data := #[7] }, { data := #[239, 184, 143] }, { data := #[32] }, { data := #[227, 130, 162] }, { data := #[122] }, { data := #[237, 160, 128] }, { data := #[192, 128] }, { data := #[240, 159, 152] }, { data := #[194, 133] }, { data := #[97, 98, 32] }, { data := #[227, 128, 128] }, { data := #[244, 144, 128, 128] }, { data := #[113] }]
def nlT : List ByteArray := [{ data := #[13] }, { data := #[10] }, { data := #[13, 10] }, { data := #[10, 10] }]
def numT : List ByteArray := [{ data := #[] }, { data := #[49] }, { data := #[50] }, { data := #[51] }, { data := #[48] }, { data := #[49, 50] }, { data := #[57, 57, 57] }, { data := #[50, 59, 51] }, { data := #[63, 49] }, { data := #[49, 48, 48, 48, 48] }]
def oddT : List ByteArray := [{ data := #[27, 99] }, { data := #[27, 91, 1] }, { data := #[27, 91, 49, 127] }, { data := #[27] }, { data := #[27, 91] }, { data := #[27, 91, 53] }, { data := #[228, 184] }, { data := #[240] }, { data := #[27, 91, 48, 48, 48, 50, 67] }, { data := #[27, 91, 48, 48, 48, 49, 50, 67] }]
def letT : List Int := [65, 66, 67, 68, 71, 75, 74, 109, 72, 75]
def tAt (xs : List ByteArray) (j : Nat) : ByteArray := xs.getD j { data := #[] }
theorem tAt_mem {xs : List ByteArray} {j : Nat} (h : j < xs.length) : tAt xs j ∈ xs := by
  unfold tAt
  rw [List.getD_eq_getElem?_getD, List.getElem?_eq_getElem h]
  exact List.getElem_mem h
theorem strs_is {w : World} {p : Nat} {T : TypeId} {xs : List ByteArray} (h : w.heap[p]? = some (.cells (xs.map Value.string).toArray T (0, 0))) (j : Nat) (hj : j < xs.length) : w.cell? ⟨p, j, none⟩ = some (.string (tAt xs j)) :=
  cells_of h j _ (by simp [hj, tAt])
theorem piece_small : ∀ t ∈ pieceT, 0 < t.size ∧ t.size ≤ 4 := by decide
theorem nl_small : ∀ t ∈ nlT, 0 < t.size ∧ t.size ≤ 2 := by decide
theorem num_small : ∀ t ∈ numT, t.size ≤ 5 := by decide
theorem odd_small : ∀ t ∈ oddT, 0 < t.size ∧ t.size ≤ 8 := by decide
theorem tmod_nat (k m : Nat) : (k : Int).tmod (m : Int) = ((k % m : Nat) : Int) := by rw [Int.tmod_eq_emod_of_nonneg (by omega)]; omega
theorem tdiv_nat (k m : Nat) : (k : Int).tdiv (m : Int) = ((k / m : Nat) : Int) := by rw [Int.tdiv_eq_ediv_of_nonneg (by omega)]; omega
set_option maxRecDepth 20000 in
set_option maxHeartbeats 4000000 in
theorem l1Piece_is (k : Nat) (w : World) :
    Calls Tryz.prog 88 #[.int .i64 (k : Int)] w fun e w' => e = .returned (.string (tAt pieceT (k % 28))) ∧ Ext w w' := by
  obtain ⟨V, hV⟩ : ∃ V, V = w.alloc (.cells (pieceT.map Value.string).toArray 9) := ⟨_, rfl⟩
  have E0 : Ext w V := by rw [hV]; exact (Ext.refl w).alloc _
  have hc := strs_is (xs := pieceT) (p := w.heap.size) (w := V) (by rw [hV]; exact new_block w _) (k % 28) (Nat.mod_lt _ (by decide))
  have HV := hide (show V = w.alloc (.cells #[.string { data := #[97] }, .string { data := #[98] }, .string { data := #[32] }, .string { data := #[99] }, .string { data := #[228, 184, 150] }, .string { data := #[204, 129] }, .string { data := #[195, 169] }, .string { data := #[120] }, .string { data := #[240, 159, 152, 128] }, .string { data := #[45] }, .string { data := #[255] }, .string { data := #[9] }, .string { data := #[226, 128, 141] }, .string { data := #[228, 184] }, .string { data := #[111] }, .string { data := #[7] }, .string { data := #[239, 184, 143] }, .string { data := #[32] }, .string { data := #[227, 130, 162] }, .string { data := #[122] }, .string { data := #[237, 160, 128] }, .string { data := #[192, 128] }, .string { data := #[240, 159, 152] }, .string { data := #[194, 133] }, .string { data := #[97, 98, 32] }, .string { data := #[227, 128, 128] }, .string { data := #[244, 144, 128, 128] }, .string { data := #[113] }] 9) from hV)
  have htm : (k : Int).tmod 28 = ((k % 28 : Nat) : Int) := tmod_nat k 28
  have hm0 : (k % 28 : Nat) < 28 := Nat.mod_lt _ (by decide)
  obtain ⟨m, hm⟩ : ∃ m, m = k % 28 := ⟨_, rfl⟩
  rw [← hm] at hc htm hm0 ⊢
  have hmI : (m : Int) < 28 := by omega
  obtain ⟨t, ht⟩ : ∃ t, t = tAt pieceT m := ⟨_, rfl⟩
  rw [← ht] at hc ⊢
  have HE := hide E0
  clear hm hV E0 ht
  have hc2 := hc
  rw [unhide HV] at hc2
  go_enter Tryz.func88, Tryz.ntmps88
  go_wp2
  rw [← unhide HV]
  exact bodyPost_ret (v := .string t) (by simp [results, Tryz.results88, go_sem]) rfl ⟨rfl, unhide HE⟩
end Go.Proofs.YtinfdhbnljnifaaGreatDoor
