import Derived.Test.YtinfdhbnljnifaaGreatDoorTextOf
import Derived.Test.YtinfdhbnljnifaaGreatDoorSpecClean
import Derived.Test.YtinfdhbnljnifaaGreatDoorRwImpl
import Derived.Lib.OthersKept
import Derived.Test.YtinfdhbnljnifaaGreatDoorSnapMark
import Derived.Deep.RegionHeld
import Derived.Test.YtinfdhbnljnifaaGreatDoorBlocks
import Derived.Test.YtinfdhbnljnifaaGreatDoorApp
import Derived.Test.YtinfdhbnljnifaaGreatDoorRowO
import Derived.Test.YtinfdhbnljnifaaGreatDoorFdF
namespace Go.Proofs.YtinfdhbnljnifaaGreatDoor
open Go.RowKit
def RdAt (w : World) (D : Nat) (v : Value) (bs : List Int) (p : Nat) : Prop :=
  w.cell? ⟨D, 0, none⟩ = some v ∧ w.cell? ⟨D, 1, none⟩ = some (.int .i64 (p : Int)) ∧ w.frozen? ⟨D, 1, none⟩ = false ∧ IntsAt w .u8 v bs ∧ p ≤ bs.length ∧ (0 < bs.length → ∃ b off n c, v = .slice (some ⟨b, off, none⟩) n c ∧ b ≠ D)
theorem RdAt.ext {w w' : World} {D : Nat} {v : Value} {bs : List Int} {p : Nat} (h : RdAt w D v bs p) (he : Ext w w') : RdAt w' D v bs p :=
  ⟨he.cell h.1, he.cell h.2.1, by rw [he.rules.2 _ _ (lt_of_cell h.1)]; exact h.2.2.1, h.2.2.2.1.ext he, h.2.2.2.2⟩
set_option maxHeartbeats 400000 in
theorem l1Open_any (v : Value) (bs : List Int) (w : World) (hv : IntsAt w .u8 v bs) (hl : bs.length ≤ 16777216) :
    Calls Tryz.prog 32 #[v] w fun e w' => e = .returned (.pointer (some ⟨w.heap.size, 0, none⟩)) ∧ (∃ v', RdAt w' w.heap.size v' (bs.take 1000) 0) ∧ Ext w w' := by
  have HV := hide hv
  obtain ⟨ao, cap, rfl, hcap, hx⟩ := hv
  have HX := hide hx
  clear hx
  by_cases h : 1000 < bs.length
  · have h2 : (1000 : Int) < (bs.length : Int) := by omega
    have h3 : (1000 : Int) ≤ (cap : Int) := by omega
    obtain ⟨b, off, rfl, hc⟩ := (unhide HX) (by omega)
    have HC := hide hc
    clear hc
    go_enter Tryz.func32, Tryz.ntmps32
    go_wp2
    go_ret
    refine ⟨rfl, ⟨.slice (some ⟨b, off, none⟩) 1000 cap, by simp [go_sem], by simp [go_sem], by simp [go_sem], ?_, by simp, fun _ => ⟨b, off, _, _, rfl, ?_⟩⟩, (Ext.refl _).alloc _⟩
    rotate_left
    · have := lt_of_cell ((unhide HC) 0 (by omega))
      omega
    have hlen : (bs.take 1000).length = 1000 := by simp; omega
    refine IntsAt.ext (w := w) ⟨some ⟨b, off, none⟩, cap, by rw [hlen], by omega, fun _ => ⟨b, off, rfl, fun j hj => ?_⟩⟩ ((Ext.refl _).alloc _)
    rw [hlen] at hj
    rw [(unhide HC) j (by omega)]
    simp [at0, hj]
  · have h2 : ¬ (1000 : Int) < (bs.length : Int) := by omega
    have ht : bs.take 1000 = bs := List.take_of_length_le (by omega)
    have HT := hide ht
    clear ht
    go_enter Tryz.func32, Tryz.ntmps32
    go_wp2
    go_ret
    refine ⟨rfl, ⟨.slice ao bs.length cap, by simp [go_sem], by simp [go_sem], by simp [go_sem], ?_, by simp, ?_⟩, (Ext.refl _).alloc _⟩
    · rw [unhide HT]
      exact (unhide HV).ext ((Ext.refl _).alloc _)
    · intro hp
      rw [unhide HT] at hp
      obtain ⟨b, off, rfl, hc⟩ := (unhide HX) hp
      have := lt_of_cell (hc 0 hp)
      exact ⟨b, off, _, _, rfl, by omega⟩
theorem RdAt.step {w : World} {D : Nat} {v : Value} {bs : List Int} {p : Nat} (h : RdAt w D v bs p) (hp : p < bs.length) : RdAt (w.setCell ⟨D, 1, none⟩ (.int .i64 ((p : Int) + 1))) D v bs (p + 1) := by
  obtain ⟨h0, h1, h2, h3, h4, h5⟩ := h
  obtain ⟨b, off, n, c, rfl, hbD⟩ := h5 (by omega)
  refine ⟨by simp [go_sem, h0], World.cell?_setCell_same _ _ _ h1, by simpa [go_sem] using h2, ?_, by omega, h5⟩
  obtain ⟨ao', cap', e4, hcap', hx'⟩ := h3
  refine ⟨ao', cap', e4, hcap', fun hp' => ?_⟩
  obtain ⟨b2, off2, e5, hc2⟩ := hx' hp'
  subst e5
  injection e4 with e6
  injection e6 with e7
  injection e7 with e8
  subst e8
  exact ⟨b, off2, rfl, fun j hj => by rw [World.cell?_setCell_far _ _ _ _ (fun e => hbD e.symm)]; exact hc2 j hj⟩
set_option maxHeartbeats 400000 in
theorem next_any (D : Nat) (v : Value) (bs : List Int) (p : Nat) (w : World) (h : RdAt w D v bs p) (hB : Bytes bs) (hl : bs.length ≤ 16777216) :
    Calls Tryz.prog 33 #[.pointer (some ⟨D, 0, none⟩)] w fun e w' => e = .returned (.int .i64 (at0 bs p)) ∧ RdAt w' D v bs (if p < bs.length then p + 1 else p) ∧ Fr (fun k => k = D) w w' := by
  have HR := hide h
  obtain ⟨h0, h1, h2, h3, h4, h5⟩ := h
  obtain ⟨ao, cap, rfl, hcap, hx⟩ := h3
  clear h5
  by_cases hp : p < bs.length
  · rw [if_pos hp]
    obtain ⟨b, off, rfl, hc⟩ := hx (by omega)
    have c0 := hc p hp
    have hb := hB.at0 p
    obtain ⟨x, hx⟩ : ∃ x, x = at0 bs p := ⟨_, rfl⟩
    rw [← hx] at c0 hb ⊢
    have bp : (p : Int) < (bs.length : Int) := by omega
    clear hc hx
    have hw : IntKind.i64.wrap ((p : Int) + 1) = (p : Int) + 1 := by rw [IntKind.wrap_i64]; omega
    have hw2 : IntKind.i64.wrap x = x := by rw [IntKind.wrap_i64]; omega
    have HP := hide hp
    go_enter Tryz.func33, Tryz.ntmps33
    go_wp2
    go_quiet (fail)
    go_wp2
    go_quiet (fail)
    go_wp2
    go_ret
    refine ⟨rfl, RdAt.step ((unhide HR).ext ?_) (unhide HP), (Fr.of_ext (S := fun k => k = D) ?_).setCell (a := ⟨D, 1, none⟩) rfl _⟩
    all_goals repeat' first | exact Ext.refl _ | refine Ext.drewN ?_ _ | refine Ext.drew ?_
  · rw [if_neg hp]
    have ha : Hid (at0 bs p = 0) := by show _ = _; unfold at0; rw [List.getElem?_eq_none (by omega)]; rfl
    have bp : ¬ (p : Int) < (bs.length : Int) := by omega
    go_enter Tryz.func33, Tryz.ntmps33
    go_wp2
    go_quiet (fail)
    go_wp2
    go_ret
    exact ⟨by rw [ha.out]; rfl, (unhide HR).ext ((Ext.refl _).drewN _), Fr.of_ext ((Ext.refl _).drewN _)⟩
end Go.Proofs.YtinfdhbnljnifaaGreatDoor

namespace Go.Proofs.YtinfdhbnljnifaaGreatDoor
open Go.RowKit
def pieceT : List ByteArray := [{ data := #[97] }, { data := #[98] }, { data := #[32] }, { data := #[99] }, { data := #[228, 184, 150] }, { data := #[204, 129] }, { data := #[195, 169] }, { data := #[120] }, { data := #[240, 159, 152, 128] }, { data := #[45] }, { data := #[255] }, { data := #[9] }, { data := #[226, 128, 141] }, { data := #[228, 184] }, { data := #[111] }, { data := #[7] }, { data := #[239, 184, 143] }, { data := #[32] }, { data := #[227, 130, 162] }, { data := #[122] }, { data := #[237, 160, 128] }, { data := #[192, 128] }, { data := #[240, 159, 152] }, { data := #[194, 133] }, { data := #[97, 98, 32] }, { data := #[227, 128, 128] }, { data := #[244, 144, 128, 128] }, { data := #[113] }]
def nlT : List ByteArray := [{ data := #[13] }, { data := #[10] }, { data := #[13, 10] }, { data := #[10, 10] }]
def numT : List ByteArray := [{ data := #[] }, { data := #[49] }, { data := #[50] }, { data := #[51] }, { data := #[48] }, { data := #[49, 50] }, { data := #[57, 57, 57] }, { data := #[50, 59, 51] }, { data := #[63, 49] }, { data := #[49, 48, 48, 48, 48] }]
def oddT : List ByteArray := [{ data := #[27, 99] }, { data := #[27, 91, 1] }, { data := #[27, 91, 49, 127] }, { data := #[27] }, { data := #[27, 91] }, { data := #[27, 91, 53] }, { data := #[228, 184] }, { data := #[240] }, { data := #[27, 91, 48, 48, 48, 50, 67] }, { data := #[27, 91, 48, 48, 48, 49, 50, 67] }]
def letT : List Int := [65, 66, 67, 68, 71, 75, 74, 109, 72, 75]
def tAt (xs : List ByteArray) (j : Nat) : ByteArray := xs.getD j { data := #[] }
theorem tAt_mem {xs : List ByteArray} {j : Nat} (h : j < xs.length) : tAt xs j ∈ xs := by
  unfold tAt
  rw [List.getD_eq_getElem?_getD, List.getElem?_eq_getElem h]
  exact List.getElem_mem h
theorem strs_is {w : World} {p : Nat} {T : TypeId} {xs : List ByteArray} (h : w.heap[p]? = some (.cells (xs.map Value.string).toArray T (0, 0))) (j : Nat) (hj : j < xs.length) : w.cell? ⟨p, j, none⟩ = some (.string (tAt xs j)) :=
  cells_of h j _ (by simp [hj, tAt])
theorem piece_small : ∀ t ∈ pieceT, 0 < t.size ∧ t.size ≤ 4 := by decide
theorem nl_small : ∀ t ∈ nlT, 0 < t.size ∧ t.size ≤ 2 := by decide
theorem num_small : ∀ t ∈ numT, t.size ≤ 5 := by decide
theorem odd_small : ∀ t ∈ oddT, 0 < t.size ∧ t.size ≤ 8 := by decide
theorem tmod_nat (k m : Nat) : (k : Int).tmod (m : Int) = ((k % m : Nat) : Int) := by rw [Int.tmod_eq_emod_of_nonneg (by omega)]; omega
theorem tdiv_nat (k m : Nat) : (k : Int).tdiv (m : Int) = ((k / m : Nat) : Int) := by rw [Int.tdiv_eq_ediv_of_nonneg (by omega)]; omega
set_option maxRecDepth 20000 in
set_option maxHeartbeats 4000000 in
theorem l1Piece_is (k : Nat) (w : World) :
    Calls Tryz.prog 88 #[.int .i64 (k : Int)] w fun e w' => e = .returned (.string (tAt pieceT (k % 28))) ∧ Ext w w' := by
  obtain ⟨V, hV⟩ : ∃ V, V = w.alloc (.cells (pieceT.map Value.string).toArray 9) := ⟨_, rfl⟩
  have E0 : Ext w V := by rw [hV]; exact (Ext.refl w).alloc _
  have hc := strs_is (xs := pieceT) (p := w.heap.size) (w := V) (by rw [hV]; exact new_block w _) (k % 28) (Nat.mod_lt _ (by decide))
  have HV := hide (show V = w.alloc (.cells #[.string { data := #[97] }, .string { data := #[98] }, .string { data := #[32] }, .string { data := #[99] }, .string { data := #[228, 184, 150] }, .string { data := #[204, 129] }, .string { data := #[195, 169] }, .string { data := #[120] }, .string { data := #[240, 159, 152, 128] }, .string { data := #[45] }, .string { data := #[255] }, .string { data := #[9] }, .string { data := #[226, 128, 141] }, .string { data := #[228, 184] }, .string { data := #[111] }, .string { data := #[7] }, .string { data := #[239, 184, 143] }, .string { data := #[32] }, .string { data := #[227, 130, 162] }, .string { data := #[122] }, .string { data := #[237, 160, 128] }, .string { data := #[192, 128] }, .string { data := #[240, 159, 152] }, .string { data := #[194, 133] }, .string { data := #[97, 98, 32] }, .string { data := #[227, 128, 128] }, .string { data := #[244, 144, 128, 128] }, .string { data := #[113] }] 9) from hV)
  have htm : (k : Int).tmod 28 = ((k % 28 : Nat) : Int) := tmod_nat k 28
  have hm0 : (k % 28 : Nat) < 28 := Nat.mod_lt _ (by decide)
  obtain ⟨m, hm⟩ : ∃ m, m = k % 28 := ⟨_, rfl⟩
  rw [← hm] at hc htm hm0 ⊢
  have hmI : (m : Int) < 28 := by omega
  obtain ⟨t, ht⟩ : ∃ t, t = tAt pieceT m := ⟨_, rfl⟩
  rw [← ht] at hc ⊢
  have HE := hide E0
  clear hm hV E0 ht
  have hc2 := hc
  rw [unhide HV] at hc2
  go_enter Tryz.func88, Tryz.ntmps88
  go_wp2
  rw [← unhide HV]
  exact bodyPost_ret (v := .string t) (by simp [results, Tryz.results88, go_sem]) rfl ⟨rfl, unhide HE⟩
end Go.Proofs.YtinfdhbnljnifaaGreatDoor

namespace Go.Proofs.YtinfdhbnljnifaaGreatDoor
open Go.RowKit
theorem cell_heap {w w' : World} {D o : Nat} (h : w'.heap[D]? = w.heap[D]?) : w'.cell? ⟨D, o, none⟩ = w.cell? ⟨D, o, none⟩ := by
  unfold World.cell?
  simp only [h]
theorem frozen_heap {w w' : World} {D o : Nat} (h : w'.heap[D]? = w.heap[D]?) : w'.frozen? ⟨D, o, none⟩ = w.frozen? ⟨D, o, none⟩ := by
  unfold World.frozen?
  simp only [h]
theorem RdAt.keep {w w1 w' : World} {D : Nat} {v : Value} {bs : List Int} {p p' : Nat} (h : RdAt w D v bs p) (h1 : RdAt w1 D v bs p') (hf : Fr (fun k => k = D) w w') (hD : w'.heap[D]? = w1.heap[D]?) : RdAt w' D v bs p' := by
  refine ⟨by rw [cell_heap hD]; exact h1.1, by rw [cell_heap hD]; exact h1.2.1, by rw [frozen_heap hD]; exact h1.2.2.1, ?_, h1.2.2.2.2.1, h.2.2.2.2.2⟩
  obtain ⟨ao, cap, e, hc, hx⟩ := h.2.2.2.1
  refine ⟨ao, cap, e, hc, fun hp => ?_⟩
  obtain ⟨b, off, e2, hcell⟩ := hx hp
  obtain ⟨b', off', n', c', e3, hne⟩ := h.2.2.2.2.2 hp
  rw [e, e2] at e3
  injection e3 with e4
  injection e4 with e5
  injection e5 with e6
  subst e6
  exact ⟨b, off, e2, fun j hj => by rw [cell_heap (hf.block b (lt_of_cell (hcell j hj)) hne)]; exact hcell j hj⟩
end Go.Proofs.YtinfdhbnljnifaaGreatDoor

namespace Go.Proofs.YtinfdhbnljnifaaGreatDoor
open Go.RowKit
def nxt (bs : List Int) (p : Nat) : Nat := if p < bs.length then p + 1 else p
def rdN (bs : List Int) (p : Nat) : Nat := (at0 bs p).toNat
theorem rdN_is {bs : List Int} (hB : Bytes bs) (p : Nat) : at0 bs p = (rdN bs p : Int) ∧ rdN bs p ≤ 255 := by
  have := hB.at0 p
  unfold rdN
  omega
def stOne (bs : List Int) (p : Nat) : List Int × Nat :=
  if rdN bs p % 8 < 4 then (baL (tAt pieceT (rdN bs p / 8 % 28)), nxt bs p)
  else if rdN bs p % 8 = 4 then (baL (tAt nlT (rdN bs p / 8 % 4)), nxt bs p)
  else if rdN bs p % 8 < 7 then ([27, 91] ++ baL (tAt numT (rdN bs p / 8 % 10)) ++ [at0 letT (rdN bs (nxt bs p) % 10)], nxt bs (nxt bs p))
  else (baL (tAt oddT (rdN bs p / 8 % 10)), nxt bs p)
def strm (bs : List Int) : Nat → Nat → List Int × Nat
  | 0, p => ([], p)
  | n + 1, p => ((strm bs n p).1 ++ (stOne bs (strm bs n p).2).1, (stOne bs (strm bs n p).2).2)
theorem let_byte (j : Nat) : 0 ≤ at0 letT j ∧ at0 letT j ≤ 255 := by
  have h : Bytes letT := by
    intro n hn
    have : ∀ n ∈ letT, 0 ≤ n ∧ n ≤ 255 := by decide
    exact this n hn
  have := h.at0 j
  omega
theorem stOne_ok (bs : List Int) (p : Nat) : Bytes (stOne bs p).1 ∧ 0 < (stOne bs p).1.length ∧ (stOne bs p).1.length ≤ 8 := by
  unfold stOne
  by_cases h1 : rdN bs p % 8 < 4
  · rw [if_pos h1]
    have := piece_small _ (tAt_mem (xs := pieceT) (j := rdN bs p / 8 % 28) (Nat.mod_lt _ (by decide)))
    exact ⟨baL_bytes _, by rw [baL_len]; omega, by rw [baL_len]; omega⟩
  rw [if_neg h1]
  by_cases h2 : rdN bs p % 8 = 4
  · rw [if_pos h2]
    have := nl_small _ (tAt_mem (xs := nlT) (j := rdN bs p / 8 % 4) (Nat.mod_lt _ (by decide)))
    exact ⟨baL_bytes _, by rw [baL_len]; omega, by rw [baL_len]; omega⟩
  rw [if_neg h2]
  by_cases h3 : rdN bs p % 8 < 7
  · rw [if_pos h3]
    have := num_small _ (tAt_mem (xs := numT) (j := rdN bs p / 8 % 10) (Nat.mod_lt _ (by decide)))
    refine ⟨?_, ?_, ?_⟩
    · intro n hn
      simp only [List.mem_append, List.mem_cons, List.not_mem_nil, or_false] at hn
      rcases hn with ((rfl | rfl) | h) | rfl
      · omega
      · omega
      · exact baL_bytes _ n h
      · exact let_byte _
    · simp
    · simp [baL_len]; omega
  rw [if_neg h3]
  have := odd_small _ (tAt_mem (xs := oddT) (j := rdN bs p / 8 % 10) (Nat.mod_lt _ (by decide)))
  exact ⟨baL_bytes _, by rw [baL_len]; omega, by rw [baL_len]; omega⟩
theorem strm_ok (bs : List Int) (p : Nat) : ∀ n, Bytes (strm bs n p).1 ∧ n ≤ (strm bs n p).1.length ∧ (strm bs n p).1.length ≤ 8 * n
  | 0 => ⟨fun x hx => by simp [strm] at hx, by simp, by simp [strm]⟩
  | n + 1 => by
    obtain ⟨h1, h2, h3⟩ := strm_ok bs p n
    obtain ⟨g1, g2, g3⟩ := stOne_ok bs (strm bs n p).2
    refine ⟨fun x hx => ?_, ?_, ?_⟩
    · rw [strm] at hx
      rcases List.mem_append.1 hx with h | h
      · exact h1 x h
      · exact g1 x h
    · rw [strm, List.length_append]; omega
    · rw [strm, List.length_append]; omega
structure StI (w wr : World) (D : Nat) (v : Value) (bs : List Int) (o : Value) (zs : List Int) (p : Nat) : Prop where
  own : wr.ownsRow w.heap.size 5 1 o zs.length (zs.map (Value.int .u8))
  rd : RdAt wr D v bs p
  fr : Fr (fun q => q = D) w wr
section
variable {w wr w1 : World} {D : Nat} {v o : Value} {bs zs : List Int} {p : Nat}
theorem StI.ext (h : StI w wr D v bs o zs p) (E : Ext wr w1) : StI w w1 D v bs o zs p := ⟨E.owns h.own, h.rd.ext E, Fr.tr h.fr (Fr.of_ext E)⟩
theorem StI.next (h : StI w wr D v bs o zs p) (hD : D < w.heap.size) {p' : Nat} (hr : RdAt w1 D v bs p') (f : Fr (fun q => q = D) wr w1) : StI w w1 D v bs o zs p' :=
  ⟨f.owns h.own (fun g hg e => by have := (h.own.lt g hg).1; omega), hr, Fr.tr h.fr f⟩
theorem StI.app (h : StI w wr D v bs o zs p) (hD : D < w.heap.size) {p0 : Nat} (h0 : RdAt w D v bs p0) {o' : Value} {ps : List Int} {n : Nat} (hn : ps.length = n) (ho : w1.ownsRow w.heap.size 5 1 o' (zs.length + n) (zs.map (Value.int .u8) ++ ps.map (Value.int .u8))) (hg : wr.grownBy w1 o.ownBlock) : StI w w1 D v bs o' (zs ++ ps) p := by
  have f1 : Fr (fun q => o.ownBlock = some q) wr w1 := Fr.grown (S := fun q => o.ownBlock = some q) (Fr.refl _ wr) hg (fun q hq => hq)
  have hlow : ∀ q, o.ownBlock = some q → w.heap.size ≤ q := fun q hq => (h.own.lt q hq).1
  have hz := h.fr.size
  have f2 : Fr (fun q => q = D) w w1 := by
    refine ⟨f1.os.trans h.fr.os, f1.tape.trans h.fr.tape, f1.output.trans h.fr.output, Nat.le_trans hz f1.size, fun q hq hn => ?_⟩
    rw [f1.block q (by omega) (fun e => by have := hlow q e; omega)]
    exact h.fr.block q hq hn
  refine ⟨by subst hn; rw [List.length_append, List.map_append]; exact ho, h0.keep h.rd f2 (f1.block D (by omega) (fun e => by have := hlow D e; omega)), f2⟩
end
theorem let_at : ∀ j (h : j < 10), ((({ data := #[65, 66, 67, 68, 71, 75, 74, 109, 72, 75] } : ByteArray)[j]'h).toNat : Int) = at0 letT j := by decide
theorem src_cells {w : World} {g m cap : Nat} {ps : List Int} (hm : ps.length = m) (h : ∀ j u, (ps.map (Value.int .u8))[j]? = some u → w.cell? ((⟨g, 0, none⟩ : Addr).add j) = some u) : Src w 1 (.slice (some ⟨g, 0, none⟩) m cap) m (ps.map (Value.int .u8)) :=
  ⟨by simp [hm], fun u hu => by obtain ⟨x, _, rfl⟩ := List.mem_map.1 hu; rfl, .inr ⟨_, cap, rfl, h⟩⟩
set_option maxRecDepth 20000 in
set_option maxHeartbeats 4000000 in
theorem l2Stream_is (D : Nat) (v : Value) (bs : List Int) (p0 n : Nat) (w : World) (h : RdAt w D v bs p0) (hB : Bytes bs) (hl : bs.length ≤ 16777216) (hn : n ≤ 1048576) :
    Calls Tryz.prog 35 #[.pointer (some ⟨D, 0, none⟩), .int .i64 (n : Int)] w fun e w' => ∃ v', e = .returned v' ∧ StI w w' D v bs v' (strm bs n p0).1 (strm bs n p0).2 := by
  obtain ⟨i0, hi, hz0, hz1, hz2⟩ := info_parts infoByteA
  have HR := hide h
  have hDw : D < w.heap.size := lt_of_cell h.1
  clear h
  go_enter Tryz.func35, Tryz.ntmps35
  go_wp2
  go_loopw [5, 6] (fun o i wr => ∃ (k : Nat), k ≤ n ∧ i = .int .i64 k ∧ Hid (StI w wr D v bs o (strm bs k p0).1 (strm bs k p0).2)) (fun _ i _ => n - (intOf i).toNat)
  case atStart => exact ⟨0, Nat.zero_le _, rfl, hide ⟨by have h9 := owns_empty w 5 1; exact h9, (unhide HR).ext ((Ext.refl _).alloc _), Fr.of_ext ((Ext.refl _).alloc _)⟩⟩
  case round =>
    obtain ⟨k, hk, rfl, HS⟩ := hrel
    obtain ⟨zs, p, hzp⟩ : ∃ zs p, strm bs k p0 = (zs, p) := ⟨_, _, rfl⟩
    have HZP := hide hzp
    rw [hzp] at HS
    have hzl : zs.length ≤ 8 * k := by have := (strm_ok bs p0 k).2.2; rw [hzp] at this; exact this
    clear hzp
    by_cases hlt : k < n
    · have bk : (k : Int) < (n : Int) := by omega
      have wk : IntKind.i64.wrap ((k : Int) + 1) = (k : Int) + 1 := by rw [IntKind.wrap_i64] <;> omega
      have HNx : Hid (∀ ps p', stOne bs p = (ps, p') → (strm bs (k + 1) p0) = (zs ++ ps, p')) := hide (fun ps p' e => by rw [strm, unhide HZP, e])
      obtain ⟨hx, hx255⟩ := rdN_is hB p
      obtain ⟨x, hxx⟩ : ∃ x, x = rdN bs p := ⟨_, rfl⟩
      have hnx := hide (next_any D v bs p wr (unhide HS).rd hB hl)
      rw [hx, ← hxx] at hnx
      rw [← hxx] at hx255
      have HX := hide hxx
      clear hx hxx
      go_wp2_with fail
      refine (unhide hnx).mono ?_
      rintro e w1 ⟨rfl, hr1, fr1⟩
      have HS1 := hide ((unhide HS).next hDw hr1 fr1)
      rw [show (if p < bs.length then p + 1 else p) = nxt bs p from rfl] at HS1
      clear hr1 fr1 HS hnx
      obtain ⟨m, hm⟩ : ∃ m, m = x % 8 := ⟨_, rfl⟩
      obtain ⟨q, hq⟩ : ∃ q, q = x / 8 := ⟨_, rfl⟩
      have t8 : (x : Int).tmod 8 = (m : Int) := by rw [hm]; exact tmod_nat x 8
      have d8 : (x : Int).tdiv 8 = (q : Int) := by rw [hq]; exact tdiv_nat x 8
      have hq31 : q ≤ 31 := by omega
      have HM : Hid (rdN bs p % 8 = m ∧ rdN bs p / 8 = q) := hide (by rw [← unhide HX]; exact ⟨hm.symm, hq.symm⟩)
      clear HX hm hq
      by_cases h4 : m < 4
      · have b4 : (m : Int) < 4 := by omega
        have HP := hide (l1Piece_is q w1)
        obtain ⟨t, ht⟩ : ∃ t, t = tAt pieceT (q % 28) := ⟨_, rfl⟩
        rw [← ht] at HP
        have HQ := hide ((unhide HNx) (baL t) (nxt bs p) (by unfold stOne; rw [(unhide HM).1, (unhide HM).2, if_pos h4, ht]))
        have htl : (baL t).length ≤ 4 := by rw [baL_len, ht]; exact (piece_small _ (tAt_mem (Nat.mod_lt _ (by decide)))).2
        clear ht HNx
        go_wp2_with fail
        refine (unhide HP).mono ?_
        rintro e w2 ⟨rfl, F2⟩
        obtain ⟨capb, w3, hrun, he3, hsz3, hcells⟩ := run_s2b (P := Tryz.prog) w2 _ _ _ Tryz.underlying9 Tryz.underlying22 Tryz.underlying5 (baL t) (baL_bytes t)
        rw [toBA_baL] at hrun
        have HS3 := hide (((unhide HS1).ext F2).ext he3)
        have HSr := hide (src_cells (cap := capb) rfl hcells)
        clear hcells F2 he3 HP HS1
        go_wp2_with (at_builtin; refine StopQ.intro ?_)
        show wpList _ _ _ _ _ _
        refine wpList_app rfl _ _ 22 rfl w.heap.size 5 i0 (.int .u8 0) 1 1 Tryz.underlying22 hi hz0 hz1 hz2 rfl (by decide) _ _ _ rfl (unhide HS3).own _ (baL t).length ((baL t).map (Value.int .u8)) rfl (unhide HSr) (by unfold maxLen; omega) (by omega) (by have := (unhide HS3).fr.size; omega) ?_
        intro u9 u9w own9 grow9 _
        have u9H := hide ((unhide HS3).app hDw (unhide HR) (ps := (baL t)) rfl own9 grow9)
        clear own9 grow9
        rw [show zs ++ baL t = (strm bs (k + 1) p0).1 from by rw [unhide HQ], show nxt bs p = (strm bs (k + 1) p0).2 from by rw [unhide HQ]] at u9H
        go_wp2
        go_roundw
        case rel => exact ⟨k + 1, by omega, by go_num, u9H⟩
        case measure => simp [intOf]; omega
      · have n4 : ¬ (m : Int) < 4 := by omega
        by_cases h4e : m = 4
        · subst h4e
          obtain ⟨r, hr⟩ : ∃ r, r = q % 4 := ⟨_, rfl⟩
          have t9 : (q : Int).tmod 4 = (r : Int) := by rw [hr]; exact tmod_nat q 4
          have hr9 : r < 4 := by rw [hr]; exact Nat.mod_lt _ (by decide)
          have hrI : (r : Int) < 4 := by omega
          obtain ⟨V, hV⟩ : ∃ V, V = w1.alloc (.cells (nlT.map Value.string).toArray 9) := ⟨_, rfl⟩
          have EV : Ext w1 V := by rw [hV]; exact (Ext.refl _).alloc _
          have zV : V.heap.size = w1.heap.size + 1 := by rw [hV]; simp
          have hc := strs_is (xs := nlT) (p := w1.heap.size) (w := V) (by rw [hV]; exact new_block _ _) r hr9
          have HV := hide (show V = w1.alloc (.cells #[.string { data := #[13] }, .string { data := #[10] }, .string { data := #[13, 10] }, .string { data := #[10, 10] }] 9) from hV)
          obtain ⟨t, ht⟩ : ∃ t, t = tAt nlT r := ⟨_, rfl⟩
          rw [← ht] at hc
          have HQ := hide ((unhide HNx) (baL t) (nxt bs p) (by unfold stOne; rw [(unhide HM).1, (unhide HM).2, if_neg (by decide), if_pos rfl, ht, hr]))
          have htl : (baL t).length ≤ 2 := by rw [baL_len, ht]; exact (nl_small _ (tAt_mem hr9)).2
          clear ht hr HNx hV
          obtain ⟨capb, w3, hrun, he3, hsz3, hcells⟩ := run_s2b (P := Tryz.prog) V _ _ _ Tryz.underlying9 Tryz.underlying22 Tryz.underlying5 (baL t) (baL_bytes t)
          rw [toBA_baL] at hrun
          rw [zV] at hrun hcells
          have HS3 := hide (((unhide HS1).ext EV).ext he3)
          have HSr := hide (src_cells (cap := capb) rfl hcells)
          rw [unhide HV] at hrun hc
          clear hcells EV he3 HS1 hsz3
          go_wp2_with (at_builtin; refine StopQ.intro ?_)
          show wpList _ _ _ _ _ _
          refine wpList_app rfl _ _ 22 rfl w.heap.size 5 i0 (.int .u8 0) 1 1 Tryz.underlying22 hi hz0 hz1 hz2 rfl (by decide) _ _ _ rfl (unhide HS3).own _ (baL t).length ((baL t).map (Value.int .u8)) rfl (unhide HSr) (by unfold maxLen; omega) (by omega) (by have := (unhide HS3).fr.size; omega) ?_
          intro u9 u9w own9 grow9 _
          have u9H := hide ((unhide HS3).app hDw (unhide HR) (ps := (baL t)) rfl own9 grow9)
          clear own9 grow9
          rw [show zs ++ baL t = (strm bs (k + 1) p0).1 from by rw [unhide HQ], show nxt bs p = (strm bs (k + 1) p0).2 from by rw [unhide HQ]] at u9H
          go_wp2
          go_roundw
          case rel => exact ⟨k + 1, by omega, by go_num, u9H⟩
          case measure => simp [intOf]; omega
        · have b4 : ((m : Int) == 4) = false := by simp; omega
          by_cases h7 : m < 7
          · have b7 : (m : Int) < 7 := by omega
            obtain ⟨U1, hU1⟩ : ∃ V, V = w1.alloc (.cells #[.int .u8 27, .int .u8 91] 5) := ⟨_, rfl⟩
            have HS2 := hide ((unhide HS1).ext (show Ext w1 U1 by rw [hU1]; exact (Ext.refl _).alloc _))
            have HSr : Hid (Src U1 1 (.slice (some ⟨w1.heap.size, 0, none⟩) 2 2) 2 (([27, 91] : List Int).map (Value.int .u8))) := hide (by rw [hU1]; exact Src.made _ _ _ rfl (by simp [Value.oneCell']))
            have HU1 := hide hU1
            clear hU1 HS1
            go_wp2_with (at_builtin; refine StopQ.intro ?_)
            show wpList _ _ _ _ _ _
            rw [← unhide HU1]
            clear HU1
            refine wpList_app rfl _ _ 22 rfl w.heap.size 5 i0 (.int .u8 0) 1 1 Tryz.underlying22 hi hz0 hz1 hz2 rfl (by decide) _ _ _ rfl (unhide HS2).own _ 2 (([27, 91] : List Int).map (Value.int .u8)) rfl (unhide HSr) (by unfold maxLen; omega) (by omega) (by have := (unhide HS2).fr.size; omega) ?_
            intro u7 u7w own9 grow9 _
            have u7H := hide ((unhide HS2).app hDw (unhide HR) (ps := ([27, 91] : List Int)) rfl own9 grow9)
            clear own9 grow9
            clear HSr HS2
            have hl2 : (zs ++ ([27, 91] : List Int)).length = zs.length + 2 := by simp
            obtain ⟨r, hr⟩ : ∃ r, r = q % 10 := ⟨_, rfl⟩
            have t9 : (q : Int).tmod 10 = (r : Int) := by rw [hr]; exact tmod_nat q 10
            have hr9 : r < 10 := by rw [hr]; exact Nat.mod_lt _ (by decide)
            have hrI : (r : Int) < 10 := by omega
            obtain ⟨V, hV⟩ : ∃ V, V = u7w.alloc (.cells (numT.map Value.string).toArray 9) := ⟨_, rfl⟩
            have EV : Ext u7w V := by rw [hV]; exact (Ext.refl _).alloc _
            have zV : V.heap.size = u7w.heap.size + 1 := by rw [hV]; simp
            have hc := strs_is (xs := numT) (p := u7w.heap.size) (w := V) (by rw [hV]; exact new_block _ _) r hr9
            have HV := hide (show V = u7w.alloc (.cells #[.string { data := #[] }, .string { data := #[49] }, .string { data := #[50] }, .string { data := #[51] }, .string { data := #[48] }, .string { data := #[49, 50] }, .string { data := #[57, 57, 57] }, .string { data := #[50, 59, 51] }, .string { data := #[63, 49] }, .string { data := #[49, 48, 48, 48, 48] }] 9) from hV)
            obtain ⟨t, ht⟩ : ∃ t, t = tAt numT r := ⟨_, rfl⟩
            rw [← ht] at hc
            have HQ : Hid (strm bs (k + 1) p0 = (zs ++ ([27, 91] ++ baL t ++ [at0 letT (rdN bs (nxt bs p) % 10)]), nxt bs (nxt bs p))) := hide ((unhide HNx) _ _ (by unfold stOne; rw [(unhide HM).1, (unhide HM).2, if_neg h4, if_neg h4e, if_pos h7, ht, hr]))
            have htl : (baL t).length ≤ 5 := by rw [baL_len, ht]; exact num_small _ (tAt_mem hr9)
            clear ht hr HNx hV
            obtain ⟨capb, w3, hrun, he3, hsz3, hcells⟩ := run_s2b (P := Tryz.prog) V _ _ _ Tryz.underlying9 Tryz.underlying22 Tryz.underlying5 (baL t) (baL_bytes t)
            rw [toBA_baL] at hrun
            rw [zV] at hrun hcells
            have HS3 := hide (((unhide u7H).ext EV).ext he3)
            have HSr := hide (src_cells (cap := capb) rfl hcells)
            rw [unhide HV] at hrun hc
            clear hcells EV he3 u7H hsz3
            go_wp2_with (at_builtin; refine StopQ.intro ?_)
            show wpList _ _ _ _ _ _
            refine wpList_app rfl _ _ 22 rfl w.heap.size 5 i0 (.int .u8 0) 1 1 Tryz.underlying22 hi hz0 hz1 hz2 rfl (by decide) _ _ _ rfl (unhide HS3).own _ (baL t).length ((baL t).map (Value.int .u8)) rfl (unhide HSr) (by unfold maxLen; omega) (by omega) (by have := (unhide HS3).fr.size; omega) ?_
            intro u8 u8w own9 grow9 _
            have u8H := hide ((unhide HS3).app hDw (unhide HR) (ps := (baL t)) rfl own9 grow9)
            clear own9 grow9
            clear HSr HS3 hrun hc HV
            have hl3 : (zs ++ ([27, 91] : List Int) ++ baL t).length = zs.length + 2 + (baL t).length := by simp; omega
            obtain ⟨hy, hy255⟩ := rdN_is hB (nxt bs p)
            obtain ⟨y, hyy⟩ : ∃ y, y = rdN bs (nxt bs p) := ⟨_, rfl⟩
            have hny := hide (next_any D v bs (nxt bs p) u8w (unhide u8H).rd hB hl)
            rw [hy, ← hyy] at hny
            rw [← hyy] at HQ hy255
            clear hy hyy
            obtain ⟨j, hj⟩ : ∃ j, j = y % 10 := ⟨_, rfl⟩
            have ty : (y : Int).tmod 10 = (j : Int) := by rw [hj]; exact tmod_nat y 10
            have hj10 : j < 10 := by rw [hj]; exact Nat.mod_lt _ (by decide)
            have hjI : (j : Int) < 10 := by omega
            rw [← hj] at HQ
            clear hj
            go_wp2_with fail
            refine (unhide hny).mono ?_
            rintro e w5 ⟨rfl, hr5, fr5⟩
            have HS5 := hide ((unhide u8H).next hDw hr5 fr5)
            rw [show (if nxt bs p < bs.length then nxt bs p + 1 else nxt bs p) = nxt bs (nxt bs p) from rfl] at HS5
            clear hr5 fr5 u8H hny
            go_wp2_with (at_builtin; refine StopQ.intro ?_)
            show wpList _ _ _ _ _ _
            rw [let_at j hj10]
            obtain ⟨c, hcl⟩ : ∃ c, c = at0 letT j := ⟨_, rfl⟩
            rw [← hcl] at HQ ⊢
            clear hcl
            obtain ⟨U2, hU2⟩ : ∃ V, V = w5.alloc (.cells #[.int .u8 c] 5) := ⟨_, rfl⟩
            rw [← hU2]
            have HS6 := hide ((unhide HS5).ext (show Ext w5 U2 by rw [hU2]; exact (Ext.refl _).alloc _))
            have HSr : Hid (Src U2 1 (.slice (some ⟨w5.heap.size, 0, none⟩) 1 1) 1 (([c] : List Int).map (Value.int .u8))) := hide (by rw [hU2]; exact Src.made _ _ _ rfl (by simp [Value.oneCell']))
            clear hU2 HS5
            refine wpList_app rfl _ _ 22 rfl w.heap.size 5 i0 (.int .u8 0) 1 1 Tryz.underlying22 hi hz0 hz1 hz2 rfl (by decide) _ _ _ rfl (unhide HS6).own _ 1 (([c] : List Int).map (Value.int .u8)) rfl (unhide HSr) (by unfold maxLen; omega) (by omega) (by have := (unhide HS6).fr.size; omega) ?_
            intro u9 u9w own9 grow9 _
            have u9H := hide ((unhide HS6).app hDw (unhide HR) (ps := ([c] : List Int)) rfl own9 grow9)
            clear own9 grow9
            have HZ : Hid (zs ++ ([27, 91] : List Int) ++ baL t ++ [c] = (strm bs (k + 1) p0).1 ∧ nxt bs (nxt bs p) = (strm bs (k + 1) p0).2) := hide (by rw [unhide HQ]; exact ⟨by simp, rfl⟩)
            rw [(unhide HZ).1, (unhide HZ).2] at u9H
            clear HZ HQ HSr HS6
            go_wp2
            go_roundw
            case rel => exact ⟨k + 1, by omega, by go_num, u9H⟩
            case measure => simp [intOf]; omega
          · have b7 : ¬ (m : Int) < 7 := by omega
            obtain ⟨r, hr⟩ : ∃ r, r = q % 10 := ⟨_, rfl⟩
            have t9 : (q : Int).tmod 10 = (r : Int) := by rw [hr]; exact tmod_nat q 10
            have hr9 : r < 10 := by rw [hr]; exact Nat.mod_lt _ (by decide)
            have hrI : (r : Int) < 10 := by omega
            obtain ⟨V, hV⟩ : ∃ V, V = w1.alloc (.cells (oddT.map Value.string).toArray 9) := ⟨_, rfl⟩
            have EV : Ext w1 V := by rw [hV]; exact (Ext.refl _).alloc _
            have zV : V.heap.size = w1.heap.size + 1 := by rw [hV]; simp
            have hc := strs_is (xs := oddT) (p := w1.heap.size) (w := V) (by rw [hV]; exact new_block _ _) r hr9
            have HV := hide (show V = w1.alloc (.cells #[.string { data := #[27, 99] }, .string { data := #[27, 91, 1] }, .string { data := #[27, 91, 49, 127] }, .string { data := #[27] }, .string { data := #[27, 91] }, .string { data := #[27, 91, 53] }, .string { data := #[228, 184] }, .string { data := #[240] }, .string { data := #[27, 91, 48, 48, 48, 50, 67] }, .string { data := #[27, 91, 48, 48, 48, 49, 50, 67] }] 9) from hV)
            obtain ⟨t, ht⟩ : ∃ t, t = tAt oddT r := ⟨_, rfl⟩
            rw [← ht] at hc
            have HQ := hide ((unhide HNx) (baL t) (nxt bs p) (by unfold stOne; rw [(unhide HM).1, (unhide HM).2, if_neg h4, if_neg h4e, if_neg h7, ht, hr]))
            have htl : (baL t).length ≤ 8 := by rw [baL_len, ht]; exact (odd_small _ (tAt_mem hr9)).2
            clear ht hr HNx hV
            obtain ⟨capb, w3, hrun, he3, hsz3, hcells⟩ := run_s2b (P := Tryz.prog) V _ _ _ Tryz.underlying9 Tryz.underlying22 Tryz.underlying5 (baL t) (baL_bytes t)
            rw [toBA_baL] at hrun
            rw [zV] at hrun hcells
            have HS3 := hide (((unhide HS1).ext EV).ext he3)
            have HSr := hide (src_cells (cap := capb) rfl hcells)
            rw [unhide HV] at hrun hc
            clear hcells EV he3 HS1 hsz3
            go_wp2_with (at_builtin; refine StopQ.intro ?_)
            show wpList _ _ _ _ _ _
            refine wpList_app rfl _ _ 22 rfl w.heap.size 5 i0 (.int .u8 0) 1 1 Tryz.underlying22 hi hz0 hz1 hz2 rfl (by decide) _ _ _ rfl (unhide HS3).own _ (baL t).length ((baL t).map (Value.int .u8)) rfl (unhide HSr) (by unfold maxLen; omega) (by omega) (by have := (unhide HS3).fr.size; omega) ?_
            intro u9 u9w own9 grow9 _
            have u9H := hide ((unhide HS3).app hDw (unhide HR) (ps := (baL t)) rfl own9 grow9)
            clear own9 grow9
            rw [show zs ++ baL t = (strm bs (k + 1) p0).1 from by rw [unhide HQ], show nxt bs p = (strm bs (k + 1) p0).2 from by rw [unhide HQ]] at u9H
            go_wp2
            go_roundw
            case rel => exact ⟨k + 1, by omega, by go_num, u9H⟩
            case measure => simp [intOf]; omega
    · obtain rfl : k = n := by omega
      have bk : ¬ (k : Int) < (k : Int) := by omega
      go_wp2
      go_ret
      exact ⟨_, rfl, by rw [unhide HZP]; exact unhide HS⟩
end Go.Proofs.YtinfdhbnljnifaaGreatDoor
