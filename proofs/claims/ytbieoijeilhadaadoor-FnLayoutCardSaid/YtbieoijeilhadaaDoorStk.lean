import Derived.Test.YtbieoijeilhadaaDoorPiece
import Derived.Test.YtbieoijeilhadaaDoorRkP
import Derived.Test.YtbieoijeilhadaaDoorRd
import Derived.Test.YtbieoijeilhadaaDoorKys
namespace Go.Proofs.YtbieoijeilhadaaDoor
open Go.RowKit
theorem cell_heap {w w' : World} {D o : Nat} (h : w'.heap[D]? = w.heap[D]?) : w'.cell? ⟨D, o, none⟩ = w.cell? ⟨D, o, none⟩ := by
  unfold World.cell?
  simp only [h]
theorem frozen_heap {w w' : World} {D o : Nat} (h : w'.heap[D]? = w.heap[D]?) : w'.frozen? ⟨D, o, none⟩ = w.frozen? ⟨D, o, none⟩ := by
  unfold World.frozen?
  simp only [h]
theorem RdAt.keep {w w1 w' : World} {D : Nat} {v : Value} {bs : List Int} {p p' : Nat} (h : RdAt w D v bs p) (h1 : RdAt w1 D v bs p') (hf : Fr (fun k => k = D) w w') (hD : w'.heap[D]? = w1.heap[D]?) : RdAt w' D v bs p' := by
  refine ⟨by rw [cell_heap hD]; exact h1.1, by rw [cell_heap hD]; exact h1.2.1, by rw [frozen_heap hD]; exact h1.2.2.1, ?_, h1.2.2.2.2.1, h.2.2.2.2.2⟩
  obtain ⟨ao, cap, e, hc, hx⟩ := h.2.2.2.1
  refine ⟨ao, cap, e, hc, fun hp => ?_⟩
  obtain ⟨b, off, e2, hcell⟩ := hx hp
  obtain ⟨b', off', n', c', e3, hne⟩ := h.2.2.2.2.2 hp
  rw [e, e2] at e3
  injection e3 with e4
  injection e4 with e5
  injection e5 with e6
  subst e6
  exact ⟨b, off, e2, fun j hj => by rw [cell_heap (hf.block b (lt_of_cell (hcell j hj)) hne)]; exact hcell j hj⟩
set_option maxRecDepth 10000 in
set_option maxHeartbeats 1000000 in
theorem l1Bytes_rd (D : Nat) (v : Value) (bs : List Int) (p0 n : Nat) (w : World) (h : RdAt w D v bs p0) (hB : Bytes bs) (hl : bs.length ≤ 16777216) (hn : n ≤ 1048576) :
    Calls Tryd.prog 50 #[.pointer (some ⟨D, 0, none⟩), .int .i64 (n : Int)] w fun e w' => ∃ v' zs, e = .returned v' ∧ (w'.ownsRow w.heap.size 5 1 v' zs.length (zs.map (Value.int .u8)) ∧ Bytes zs ∧ zs.length ≤ 4 * n) ∧ (∃ p, RdAt w' D v bs p) ∧ Fr (fun k => k = D) w w' := by
  obtain ⟨i0, hi, hz0, hz1, hz2⟩ := info_parts infoByteA
  have HR := hide h
  have hDw : D < w.heap.size := lt_of_cell h.1
  clear h
  go_enter Tryd.func50, Tryd.ntmps50
  go_wp2
  go_loopw [5, 6] (fun o i wr => ∃ (k p : Nat) (zs : List Int), k ≤ n ∧ i = .int .i64 k ∧ Hid (wr.ownsRow w.heap.size 5 1 o zs.length (zs.map (Value.int .u8))) ∧ Hid (Bytes zs) ∧ zs.length ≤ 4 * k ∧ Hid (RdAt wr D v bs p) ∧ Hid (Fr (fun q => q = D) w wr)) (fun _ i _ => n - (intOf i).toNat)
  case atStart => exact ⟨0, p0, [], Nat.zero_le _, rfl, hide (World.ownsRow_made w #[] 0 (Nat.le_refl _) (by unfold maxLen; omega) (by simp)), hide (fun x hx => by simp at hx), by simp, hide ((unhide HR).ext ((Ext.refl _).alloc _)), hide (Fr.of_ext ((Ext.refl _).alloc _))⟩
  case round =>
    obtain ⟨k, p, zs, hk, rfl, HO, HB, hlz, HRD, HF⟩ := hrel
    by_cases hlt : k < n
    · have bk : (k : Int) < (n : Int) := by omega
      have hb := hB.at0 p
      obtain ⟨x, hx⟩ : ∃ x : Nat, at0 bs p = (x : Int) := ⟨(at0 bs p).toNat, by omega⟩
      have hnx := hide (next_any D v bs p wr (unhide HRD) hB hl)
      rw [hx] at hnx
      clear hx hb
      go_wp2_with fail
      refine (unhide hnx).mono ?_
      rintro e w1 ⟨rfl, hr1, fr1⟩
      have HR1 := hide hr1
      have HO1 := hide (fr1.owns (unhide HO) (fun g hg e => by have := ((unhide HO).lt g hg).1; omega))
      have HF1 : Hid (Fr (fun q => q = D) w w1) := by
        have h1 := unhide HF
        exact hide ⟨fr1.os.trans h1.os, fr1.tape.trans h1.tape, fr1.output.trans h1.output, Nat.le_trans h1.size fr1.size, fun q hq hn => (fr1.block q (Nat.lt_of_lt_of_le hq h1.size) hn).trans (h1.block q hq hn)⟩
      clear hr1 fr1
      go_wp2_with fail
      refine (l1Piece_any x w1).mono ?_
      rintro e w2 ⟨⟨ps, rfl, hpb, hp0, hp4⟩, F2⟩
      obtain ⟨capb, w3, hrun, he3, hsz3, hcells⟩ := run_s2b (P := Tryd.prog) w2 _ _ _ Tryd.underlying9 Tryd.underlying22 Tryd.underlying5 ps hpb
      have E3 := F2.trans he3
      have HO3 := hide (E3.owns (unhide HO1))
      have HCE := hide hcells
      have z1 := (unhide HF1).size
      have z3 := E3.size
      clear hcells
      go_wp2_with (at_builtin; go_must (refine wpList_append_own _ rfl _ _ 22 rfl w.heap.size 5 i0 (.int .u8 0) 1 1 Tryd.underlying22 hi hz0 hz1 hz2 rfl (by decide) _ _ _ rfl (unhide HO3) ⟨w2.heap.size, 0, none⟩ ps.length capb (ps.map (Value.int .u8)) rfl (by simp) (unhide HCE) (ints_oneCell _ _) ?_ ?_ ?_ ?_))
      · unfold maxLen; omega
      · omega
      · omega
      · intro v' w4 hown' hgrow _
        have hO4 : Hid (w4.ownsRow w.heap.size 5 1 v' (zs ++ ps).length ((zs ++ ps).map (Value.int .u8))) := by
          refine hide ?_
          rw [List.length_append, List.map_append]
          exact hown'
        have hB4 : Hid (Bytes (zs ++ ps)) := hide (fun y hy => by
          rcases List.mem_append.1 hy with h | h
          · exact (unhide HB) y h
          · exact hpb y h)
        have hrow : ∀ q, u5.ownBlock = some q → w.heap.size ≤ q := fun q hq => ((unhide HO).lt q hq).1
        have E14 : ∀ q, q < w1.heap.size → q < w.heap.size → w4.heap[q]? = w1.heap[q]? := fun q hq hq2 => (hgrow.block q (by omega) (fun e => by have := hrow q e.symm; omega)).trans (E3.heap hq)
        have HF4 : Hid (Fr (fun q => q = D) w w4) := by
          have h1 := unhide HF1
          refine hide ⟨hgrow.os.trans (E3.os.trans h1.os), hgrow.tape.trans (E3.tape.trans h1.tape), hgrow.output.trans (E3.output.trans h1.output), by have := hgrow.size; omega, fun q hq hn => (E14 q (by omega) hq).trans (h1.block q hq hn)⟩
        have HR4 : Hid (RdAt w4 D v bs (if p < bs.length then p + 1 else p)) := by
          exact hide ((unhide HR).keep (unhide HR1) (unhide HF4) (E14 D (by omega) hDw))
        clear hown' hgrow hrun
        go_wp2
        go_roundw
        case rel => exact ⟨k + 1, _, zs ++ ps, by omega, by go_num, hO4, hB4, by simp; omega, HR4, HF4⟩
        case measure => simp [intOf]; omega
    · obtain rfl : k = n := by omega
      go_wp2
      go_ret
      exact ⟨_, zs, rfl, ⟨unhide HO, unhide HB, hlz⟩, ⟨_, unhide HRD⟩, unhide HF⟩
end Go.Proofs.YtbieoijeilhadaaDoor

namespace Go.Proofs.YtbieoijeilhadaaDoor
open Go.RowKit
def strokes : List ByteArray := [{ data := #[13] }, { data := #[127] }, { data := #[127] }, { data := #[4] }, { data := #[2] }, { data := #[2] }, { data := #[6] }, { data := #[1] }, { data := #[5] }, { data := #[16] }, { data := #[14] }, { data := #[11] }, { data := #[21] }, { data := #[23] }, { data := #[25] }, { data := #[20] }, { data := #[31] }, { data := #[18] }, { data := #[3] }, { data := #[27, 98] }, { data := #[27, 102] }, { data := #[27, 91, 65] }, { data := #[27, 91, 66] }, { data := #[27, 91, 67] }, { data := #[27, 91, 68] }, { data := #[27, 91, 51, 126] }, { data := #[27, 79, 72] }, { data := #[27, 91, 52, 126] }, { data := #[27, 91, 50, 48, 48, 126, 97, 9, 98, 255, 27, 91, 50, 48, 49, 126] }, { data := #[27, 91, 50, 48, 48, 126, 204, 129, 120] }, { data := #[27, 91, 50, 48, 49, 126] }, { data := #[27] }, { data := #[27, 27] }, { data := #[27, 91, 53] }, { data := #[27, 91, 49, 59, 50, 65] }, { data := #[27, 91, 1] }, { data := #[27, 122] }, { data := #[27, 79] }, { data := #[228, 184] }, { data := #[10] }, { data := #[16] }, { data := #[14] }, { data := #[18] }, { data := #[31] }, { data := #[25] }, { data := #[13] }, { data := #[119, 111, 114, 100, 32, 116, 119, 111, 32] }, { data := #[194, 128] }]
theorem strokes_small : ∀ t ∈ strokes, t.size ≤ 24 := by decide
theorem strs_at {w : World} {p : Nat} {T : TypeId} {xs : List ByteArray} (h : w.heap[p]? = some (.cells (xs.map Value.string).toArray T (0, 0))) : ∀ j, j < xs.length → ∃ t ∈ xs, w.cell? ⟨p, j, none⟩ = some (.string t) := fun j hj => ⟨xs[j], List.getElem_mem hj, cells_of h j _ (by simp [hj])⟩
set_option maxRecDepth 20000 in
set_option maxHeartbeats 4000000 in
theorem l3Stroke_any (k : Nat) (hk : k ≤ 255) (w : World) :
    Calls Tryd.prog 65 #[.int .i64 (k : Int)] w fun e w' => (∃ ps, e = .returned (.string (toBA ps)) ∧ Bytes ps ∧ ps.length ≤ 24) ∧ Ext w w' := by
  by_cases h1 : k < 120
  · have h1I : (k : Int) < 120 := by omega
    have hP := hide (l1Piece_any k w)
    go_enter Tryd.func65, Tryd.ntmps65
    go_wp2_with fail
    refine (unhide hP).mono ?_
    rintro e w1 ⟨⟨zs, rfl, hzb, _, h4⟩, E1⟩
    go_wp2
    exact bodyPost_ret (v := .string (toBA zs)) (by simp [results, Tryd.results65, go_sem]) rfl ⟨⟨zs, rfl, hzb, by omega⟩, E1⟩
  · have h1I : ¬ (k : Int) < 120 := by omega
    obtain ⟨V, hV⟩ : ∃ V, V = w.alloc (.cells (strokes.map Value.string).toArray 9) := ⟨_, rfl⟩
    have E0 : Ext w V := by rw [hV]; exact (Ext.refl w).alloc _
    obtain ⟨t, ht, hc⟩ := strs_at (xs := strokes) (p := w.heap.size) (w := V) (by rw [hV]; exact new_block w _) (k % 48) (Nat.mod_lt _ (by decide))
    have hs := strokes_small t ht
    have HV := hide (show V = w.alloc (.cells #[.string { data := #[13] }, .string { data := #[127] }, .string { data := #[127] }, .string { data := #[4] }, .string { data := #[2] }, .string { data := #[2] }, .string { data := #[6] }, .string { data := #[1] }, .string { data := #[5] }, .string { data := #[16] }, .string { data := #[14] }, .string { data := #[11] }, .string { data := #[21] }, .string { data := #[23] }, .string { data := #[25] }, .string { data := #[20] }, .string { data := #[31] }, .string { data := #[18] }, .string { data := #[3] }, .string { data := #[27, 98] }, .string { data := #[27, 102] }, .string { data := #[27, 91, 65] }, .string { data := #[27, 91, 66] }, .string { data := #[27, 91, 67] }, .string { data := #[27, 91, 68] }, .string { data := #[27, 91, 51, 126] }, .string { data := #[27, 79, 72] }, .string { data := #[27, 91, 52, 126] }, .string { data := #[27, 91, 50, 48, 48, 126, 97, 9, 98, 255, 27, 91, 50, 48, 49, 126] }, .string { data := #[27, 91, 50, 48, 48, 126, 204, 129, 120] }, .string { data := #[27, 91, 50, 48, 49, 126] }, .string { data := #[27] }, .string { data := #[27, 27] }, .string { data := #[27, 91, 53] }, .string { data := #[27, 91, 49, 59, 50, 65] }, .string { data := #[27, 91, 1] }, .string { data := #[27, 122] }, .string { data := #[27, 79] }, .string { data := #[228, 184] }, .string { data := #[10] }, .string { data := #[16] }, .string { data := #[14] }, .string { data := #[18] }, .string { data := #[31] }, .string { data := #[25] }, .string { data := #[13] }, .string { data := #[119, 111, 114, 100, 32, 116, 119, 111, 32] }, .string { data := #[194, 128] }] 9) from hV)
    have htm : (k : Int).tmod 48 = ((k % 48 : Nat) : Int) := by rw [Int.tmod_eq_emod_of_nonneg (by omega)]; omega
    have hm0 : (k % 48 : Nat) < 48 := Nat.mod_lt _ (by decide)
    obtain ⟨m, hm⟩ : ∃ m, m = k % 48 := ⟨_, rfl⟩
    rw [← hm] at hc htm hm0
    have hmI : (m : Int) < 48 := by omega
    have HE := hide E0
    clear hm ht hV E0
    have hc2 := hc
    rw [unhide HV] at hc2
    go_enter Tryd.func65, Tryd.ntmps65
    go_wp2
    rw [← unhide HV]
    exact bodyPost_ret (v := .string t) (by simp [results, Tryd.results65, go_sem]) rfl ⟨⟨baL t, by rw [toBA_baL], baL_bytes t, by rw [baL_len]; exact hs⟩, unhide HE⟩
set_option maxRecDepth 10000 in
set_option maxHeartbeats 1000000 in
theorem l3Strokes_rd (D : Nat) (v : Value) (bs : List Int) (p0 n : Nat) (w : World) (h : RdAt w D v bs p0) (hB : Bytes bs) (hl : bs.length ≤ 16777216) (hn : n ≤ 1048576) :
    Calls Tryd.prog 33 #[.pointer (some ⟨D, 0, none⟩), .int .i64 (n : Int)] w fun e w' => ∃ v' zs, e = .returned v' ∧ (w'.ownsRow w.heap.size 5 1 v' zs.length (zs.map (Value.int .u8)) ∧ Bytes zs ∧ zs.length ≤ 24 * n) ∧ (∃ p, RdAt w' D v bs p) ∧ Fr (fun k => k = D) w w' := by
  obtain ⟨i0, hi, hz0, hz1, hz2⟩ := info_parts infoByteA
  have HR := hide h
  have hDw : D < w.heap.size := lt_of_cell h.1
  clear h
  go_enter Tryd.func33, Tryd.ntmps33
  go_wp2
  go_loopw [5, 6] (fun o i wr => ∃ (k p : Nat) (zs : List Int), k ≤ n ∧ i = .int .i64 k ∧ Hid (wr.ownsRow w.heap.size 5 1 o zs.length (zs.map (Value.int .u8))) ∧ Hid (Bytes zs) ∧ zs.length ≤ 24 * k ∧ Hid (RdAt wr D v bs p) ∧ Hid (Fr (fun q => q = D) w wr)) (fun _ i _ => n - (intOf i).toNat)
  case atStart => exact ⟨0, p0, [], Nat.zero_le _, rfl, hide (World.ownsRow_made w #[] 0 (Nat.le_refl _) (by unfold maxLen; omega) (by simp)), hide (fun x hx => by simp at hx), by simp, hide ((unhide HR).ext ((Ext.refl _).alloc _)), hide (Fr.of_ext ((Ext.refl _).alloc _))⟩
  case round =>
    obtain ⟨k, p, zs, hk, rfl, HO, HB, hlz, HRD, HF⟩ := hrel
    by_cases hlt : k < n
    · have bk : (k : Int) < (n : Int) := by omega
      have hb := hB.at0 p
      obtain ⟨x, hx⟩ : ∃ x : Nat, at0 bs p = (x : Int) := ⟨(at0 bs p).toNat, by omega⟩
      have hx255 : x ≤ 255 := by omega
      have hnx := hide (next_any D v bs p wr (unhide HRD) hB hl)
      rw [hx] at hnx
      clear hx hb
      go_wp2_with fail
      refine (unhide hnx).mono ?_
      rintro e w1 ⟨rfl, hr1, fr1⟩
      have HR1 := hide hr1
      have HO1 := hide (fr1.owns (unhide HO) (fun g hg e => by have := ((unhide HO).lt g hg).1; omega))
      have HF1 : Hid (Fr (fun q => q = D) w w1) := by
        have h1 := unhide HF
        exact hide ⟨fr1.os.trans h1.os, fr1.tape.trans h1.tape, fr1.output.trans h1.output, Nat.le_trans h1.size fr1.size, fun q hq hn => (fr1.block q (Nat.lt_of_lt_of_le hq h1.size) hn).trans (h1.block q hq hn)⟩
      clear hr1 fr1
      go_wp2_with fail
      refine (l3Stroke_any x hx255 w1).mono ?_
      rintro e w2 ⟨⟨ps, rfl, hpb, hp4⟩, F2⟩
      obtain ⟨capb, w3, hrun, he3, hsz3, hcells⟩ := run_s2b (P := Tryd.prog) w2 _ _ _ Tryd.underlying9 Tryd.underlying22 Tryd.underlying5 ps hpb
      have E3 := F2.trans he3
      have HO3 := hide (E3.owns (unhide HO1))
      have HCE := hide hcells
      have z1 := (unhide HF1).size
      have z3 := E3.size
      clear hcells
      go_wp2_with (at_builtin; go_must (refine wpList_append_own _ rfl _ _ 22 rfl w.heap.size 5 i0 (.int .u8 0) 1 1 Tryd.underlying22 hi hz0 hz1 hz2 rfl (by decide) _ _ _ rfl (unhide HO3) ⟨w2.heap.size, 0, none⟩ ps.length capb (ps.map (Value.int .u8)) rfl (by simp) (unhide HCE) (ints_oneCell _ _) ?_ ?_ ?_ ?_))
      · unfold maxLen; omega
      · omega
      · omega
      · intro v' w4 hown' hgrow _
        have hO4 : Hid (w4.ownsRow w.heap.size 5 1 v' (zs ++ ps).length ((zs ++ ps).map (Value.int .u8))) := by
          refine hide ?_
          rw [List.length_append, List.map_append]
          exact hown'
        have hB4 : Hid (Bytes (zs ++ ps)) := hide (fun y hy => by
          rcases List.mem_append.1 hy with h | h
          · exact (unhide HB) y h
          · exact hpb y h)
        have hrow : ∀ q, u5.ownBlock = some q → w.heap.size ≤ q := fun q hq => ((unhide HO).lt q hq).1
        have E14 : ∀ q, q < w1.heap.size → q < w.heap.size → w4.heap[q]? = w1.heap[q]? := fun q hq hq2 => (hgrow.block q (by omega) (fun e => by have := hrow q e.symm; omega)).trans (E3.heap hq)
        have HF4 : Hid (Fr (fun q => q = D) w w4) := by
          have h1 := unhide HF1
          refine hide ⟨hgrow.os.trans (E3.os.trans h1.os), hgrow.tape.trans (E3.tape.trans h1.tape), hgrow.output.trans (E3.output.trans h1.output), by have := hgrow.size; omega, fun q hq hn => (E14 q (by omega) hq).trans (h1.block q hq hn)⟩
        have HR4 : Hid (RdAt w4 D v bs (if p < bs.length then p + 1 else p)) := by
          exact hide ((unhide HR).keep (unhide HR1) (unhide HF4) (E14 D (by omega) hDw))
        clear hown' hgrow hrun
        go_wp2
        go_roundw
        case rel => exact ⟨k + 1, _, zs ++ ps, by omega, by go_num, hO4, hB4, by simp; omega, HR4, HF4⟩
        case measure => simp [intOf]; omega
    · obtain rfl : k = n := by omega
      go_wp2
      go_ret
      exact ⟨_, zs, rfl, ⟨unhide HO, unhide HB, hlz⟩, ⟨_, unhide HRD⟩, unhide HF⟩
end Go.Proofs.YtbieoijeilhadaaDoor
