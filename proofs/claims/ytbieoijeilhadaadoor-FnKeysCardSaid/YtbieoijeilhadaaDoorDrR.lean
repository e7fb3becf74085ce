import Derived.Test.YtbieoijeilhadaaDoorRkH
import Derived.Test.YtbieoijeilhadaaDoorPiece
import Derived.Test.YtbieoijeilhadaaDoorDrawClean
import Derived.Test.YtbieoijeilhadaaDoorRd
import Derived.Test.YtbieoijeilhadaaDoorKys
import Derived.Test.YtbieoijeilhadaaDoorKmR
import Derived.Test.YtbieoijeilhadaaDoorSettle
namespace Go.Proofs.YtbieoijeilhadaaDoor
open Go.RowKit
def strokes : List ByteArray := [{ data := #[13] }, { data := #[127] }, { data := #[127] }, { data := #[4] }, { data := #[2] }, { data := #[2] }, { data := #[6] }, { data := #[1] }, { data := #[5] }, { data := #[16] }, { data := #[14] }, { data := #[11] }, { data := #[21] }, { data := #[23] }, { data := #[25] }, { data := #[20] }, { data := #[31] }, { data := #[18] }, { data := #[3] }, { data := #[27, 98] }, { data := #[27, 102] }, { data := #[27, 91, 65] }, { data := #[27, 91, 66] }, { data := #[27, 91, 67] }, { data := #[27, 91, 68] }, { data := #[27, 91, 51, 126] }, { data := #[27, 79, 72] }, { data := #[27, 91, 52, 126] }, { data := #[27, 91, 50, 48, 48, 126, 97, 9, 98, 255, 27, 91, 50, 48, 49, 126] }, { data := #[27, 91, 50, 48, 48, 126, 204, 129, 120] }, { data := #[27, 91, 50, 48, 49, 126] }, { data := #[27] }, { data := #[27, 27] }, { data := #[27, 91, 53] }, { data := #[27, 91, 49, 59, 50, 65] }, { data := #[27, 91, 1] }, { data := #[27, 122] }, { data := #[27, 79] }, { data := #[228, 184] }, { data := #[10] }, { data := #[16] }, { data := #[14] }, { data := #[18] }, { data := #[31] }, { data := #[25] }, { data := #[13] }, { data := #[119, 111, 114, 100, 32, 116, 119, 111, 32] }, { data := #[194, 128] }]
theorem strokes_small : ∀ t ∈ strokes, t.size ≤ 24 := by decide
theorem strs_at {w : World} {p : Nat} {T : TypeId} {xs : List ByteArray} (h : w.heap[p]? = some (.cells (xs.map Value.string).toArray T (0, 0))) : ∀ j, j < xs.length → ∃ t ∈ xs, w.cell? ⟨p, j, none⟩ = some (.string t) := fun j hj => ⟨xs[j], List.getElem_mem hj, cells_of h j _ (by simp [hj])⟩
set_option maxRecDepth 20000 in
set_option maxHeartbeats 4000000 in
theorem l3Stroke_any (k : Nat) (hk : k ≤ 255) (w : World) :
    Calls Tryd.prog 65 #[.int .i64 (k : Int)] w fun e w' => (∃ ps, e = .returned (.string (toBA ps)) ∧ Bytes ps ∧ ps.length ≤ 24) ∧ Ext w w' := by
  by_cases h1 : k < 120
  · have h1I : (k : Int) < 120 := by omega
    have hP := hide (l1Piece_any k w)
    go_enter Tryd.func65, Tryd.ntmps65
    go_wp2_with fail
    refine (unhide hP).mono ?_
    rintro e w1 ⟨⟨zs, rfl, hzb, _, h4⟩, E1⟩
    go_wp2
    exact bodyPost_ret (v := .string (toBA zs)) (by simp [results, Tryd.results65, go_sem]) rfl ⟨⟨zs, rfl, hzb, by omega⟩, E1⟩
  · have h1I : ¬ (k : Int) < 120 := by omega
    obtain ⟨V, hV⟩ : ∃ V, V = w.alloc (.cells (strokes.map Value.string).toArray 9) := ⟨_, rfl⟩
    have E0 : Ext w V := by rw [hV]; exact (Ext.refl w).alloc _
    obtain ⟨t, ht, hc⟩ := strs_at (xs := strokes) (p := w.heap.size) (w := V) (by rw [hV]; exact new_block w _) (k % 48) (Nat.mod_lt _ (by decide))
    have hs := strokes_small t ht
    have HV := hide (show V = w.alloc (.cells #[.string { data := #[13] }, .string { data := #[127] }, .string { data := #[127] }, .string { data := #[4] }, .string { data := #[2] }, .string { data := #[2] }, .string { data := #[6] }, .string { data := #[1] }, .string { data := #[5] }, .string { data := #[16] }, .string { data := #[14] }, .string { data := #[11] }, .string { data := #[21] }, .string { data := #[23] }, .string { data := #[25] }, .string { data := #[20] }, .string { data := #[31] }, .string { data := #[18] }, .string { data := #[3] }, .string { data := #[27, 98] }, .string { data := #[27, 102] }, .string { data := #[27, 91, 65] }, .string { data := #[27, 91, 66] }, .string { data := #[27, 91, 67] }, .string { data := #[27, 91, 68] }, .string { data := #[27, 91, 51, 126] }, .string { data := #[27, 79, 72] }, .string { data := #[27, 91, 52, 126] }, .string { data := #[27, 91, 50, 48, 48, 126, 97, 9, 98, 255, 27, 91, 50, 48, 49, 126] }, .string { data := #[27, 91, 50, 48, 48, 126, 204, 129, 120] }, .string { data := #[27, 91, 50, 48, 49, 126] }, .string { data := #[27] }, .string { data := #[27, 27] }, .string { data := #[27, 91, 53] }, .string { data := #[27, 91, 49, 59, 50, 65] }, .string { data := #[27, 91, 1] }, .string { data := #[27, 122] }, .string { data := #[27, 79] }, .string { data := #[228, 184] }, .string { data := #[10] }, .string { data := #[16] }, .string { data := #[14] }, .string { data := #[18] }, .string { data := #[31] }, .string { data := #[25] }, .string { data := #[13] }, .string { data := #[119, 111, 114, 100, 32, 116, 119, 111, 32] }, .string { data := #[194, 128] }] 9) from hV)
    have htm : (k : Int).tmod 48 = ((k % 48 : Nat) : Int) := by rw [Int.tmod_eq_emod_of_nonneg (by omega)]; omega
    have hm0 : (k % 48 : Nat) < 48 := Nat.mod_lt _ (by decide)
    obtain ⟨m, hm⟩ : ∃ m, m = k % 48 := ⟨_, rfl⟩
    rw [← hm] at hc htm hm0
    have hmI : (m : Int) < 48 := by omega
    have HE := hide E0
    clear hm ht hV E0
    have hc2 := hc
    rw [unhide HV] at hc2
    go_enter Tryd.func65, Tryd.ntmps65
    go_wp2
    rw [← unhide HV]
    exact bodyPost_ret (v := .string t) (by simp [results, Tryd.results65, go_sem]) rfl ⟨⟨baL t, by rw [toBA_baL], baL_bytes t, by rw [baL_len]; exact hs⟩, unhide HE⟩
set_option maxRecDepth 10000 in
set_option maxHeartbeats 1000000 in
theorem l3Strokes_rd (D : Nat) (v : Value) (bs : List Int) (p0 n : Nat) (w : World) (h : RdAt w D v bs p0) (hB : Bytes bs) (hl : bs.length ≤ 16777216) (hn : n ≤ 1048576) :
    Calls Tryd.prog 33 #[.pointer (some ⟨D, 0, none⟩), .int .i64 (n : Int)] w fun e w' => ∃ v' zs, e = .returned v' ∧ (w'.ownsRow w.heap.size 5 1 v' zs.length (zs.map (Value.int .u8)) ∧ Bytes zs ∧ zs.length ≤ 24 * n) ∧ (∃ p, RdAt w' D v bs p) ∧ Fr (fun k => k = D) w w' := by
  obtain ⟨i0, hi, hz0, hz1, hz2⟩ := info_parts infoByteA
  have HR := hide h
  have hDw : D < w.heap.size := lt_of_cell h.1
  clear h
  go_enter Tryd.func33, Tryd.ntmps33
  go_wp2
  go_loopw [5, 6] (fun o i wr => ∃ (k p : Nat) (zs : List Int), k ≤ n ∧ i = .int .i64 k ∧ Hid (wr.ownsRow w.heap.size 5 1 o zs.length (zs.map (Value.int .u8))) ∧ Hid (Bytes zs) ∧ zs.length ≤ 24 * k ∧ Hid (RdAt wr D v bs p) ∧ Hid (Fr (fun q => q = D) w wr)) (fun _ i _ => n - (intOf i).toNat)
  case atStart => exact ⟨0, p0, [], Nat.zero_le _, rfl, hide (World.ownsRow_made w #[] 0 (Nat.le_refl _) (by unfold maxLen; omega) (by simp)), hide (fun x hx => by simp at hx), by simp, hide ((unhide HR).ext ((Ext.refl _).alloc _)), hide (Fr.of_ext ((Ext.refl _).alloc _))⟩
  case round =>
    obtain ⟨k, p, zs, hk, rfl, HO, HB, hlz, HRD, HF⟩ := hrel
    by_cases hlt : k < n
    · have bk : (k : Int) < (n : Int) := by omega
      have hb := hB.at0 p
      obtain ⟨x, hx⟩ : ∃ x : Nat, at0 bs p = (x : Int) := ⟨(at0 bs p).toNat, by omega⟩
      have hx255 : x ≤ 255 := by omega
      have hnx := hide (next_any D v bs p wr (unhide HRD) hB hl)
      rw [hx] at hnx
      clear hx hb
      go_wp2_with fail
      refine (unhide hnx).mono ?_
      rintro e w1 ⟨rfl, hr1, fr1⟩
      have HR1 := hide hr1
      have HO1 := hide (fr1.owns (unhide HO) (fun g hg e => by have := ((unhide HO).lt g hg).1; omega))
      have HF1 : Hid (Fr (fun q => q = D) w w1) := by
        have h1 := unhide HF
        exact hide ⟨fr1.os.trans h1.os, fr1.tape.trans h1.tape, fr1.output.trans h1.output, Nat.le_trans h1.size fr1.size, fun q hq hn => (fr1.block q (Nat.lt_of_lt_of_le hq h1.size) hn).trans (h1.block q hq hn)⟩
      clear hr1 fr1
      go_wp2_with fail
      refine (l3Stroke_any x hx255 w1).mono ?_
      rintro e w2 ⟨⟨ps, rfl, hpb, hp4⟩, F2⟩
      obtain ⟨capb, w3, hrun, he3, hsz3, hcells⟩ := run_s2b (P := Tryd.prog) w2 _ _ _ Tryd.underlying9 Tryd.underlying22 Tryd.underlying5 ps hpb
      have E3 := F2.trans he3
      have HO3 := hide (E3.owns (unhide HO1))
      have HCE := hide hcells
      have z1 := (unhide HF1).size
      have z3 := E3.size
      clear hcells
      go_wp2_with (at_builtin; go_must (refine wpList_append_own _ rfl _ _ 22 rfl w.heap.size 5 i0 (.int .u8 0) 1 1 Tryd.underlying22 hi hz0 hz1 hz2 rfl (by decide) _ _ _ rfl (unhide HO3) ⟨w2.heap.size, 0, none⟩ ps.length capb (ps.map (Value.int .u8)) rfl (by simp) (unhide HCE) (ints_oneCell _ _) ?_ ?_ ?_ ?_))
      · unfold maxLen; omega
      · omega
      · omega
      · intro v' w4 hown' hgrow _
        have hO4 : Hid (w4.ownsRow w.heap.size 5 1 v' (zs ++ ps).length ((zs ++ ps).map (Value.int .u8))) := by
          refine hide ?_
          rw [List.length_append, List.map_append]
          exact hown'
        have hB4 : Hid (Bytes (zs ++ ps)) := hide (fun y hy => by
          rcases List.mem_append.1 hy with h | h
          · exact (unhide HB) y h
          · exact hpb y h)
        have hrow : ∀ q, u5.ownBlock = some q → w.heap.size ≤ q := fun q hq => ((unhide HO).lt q hq).1
        have E14 : ∀ q, q < w1.heap.size → q < w.heap.size → w4.heap[q]? = w1.heap[q]? := fun q hq hq2 => (hgrow.block q (by omega) (fun e => by have := hrow q e.symm; omega)).trans (E3.heap hq)
        have HF4 : Hid (Fr (fun q => q = D) w w4) := by
          have h1 := unhide HF1
          refine hide ⟨hgrow.os.trans (E3.os.trans h1.os), hgrow.tape.trans (E3.tape.trans h1.tape), hgrow.output.trans (E3.output.trans h1.output), by have := hgrow.size; omega, fun q hq hn => (E14 q (by omega) hq).trans (h1.block q hq hn)⟩
        have HR4 : Hid (RdAt w4 D v bs (if p < bs.length then p + 1 else p)) := by
          exact hide ((unhide HR).keep (unhide HR1) (unhide HF4) (E14 D (by omega) hDw))
        clear hown' hgrow hrun
        go_wp2
        go_roundw
        case rel => exact ⟨k + 1, _, zs ++ ps, by omega, by go_num, hO4, hB4, by simp; omega, HR4, HF4⟩
        case measure => simp [intOf]; omega
    · obtain rfl : k = n := by omega
      go_wp2
      go_ret
      exact ⟨_, zs, rfl, ⟨unhide HO, unhide HB, hlz⟩, ⟨_, unhide HRD⟩, unhide HF⟩
end Go.Proofs.YtbieoijeilhadaaDoor

namespace Go.Proofs.YtbieoijeilhadaaDoor
open Go.RowKit
def heads : List ByteArray := [{ data := #[27] }, { data := #[27, 91] }, { data := #[228] }, { data := #[27, 91, 50, 48, 48, 126, 97, 98, 27, 91, 50, 48] }, { data := #[27, 79] }, { data := #[240, 159] }, { data := #[27, 91, 49, 59] }]
theorem heads_small : ∀ t ∈ heads, t.size ≤ 24 := by decide
theorem fr_out {S S' : Nat → Prop} {w w1 w2 : World} (h1 : Fr S w w1) (h2 : Fr S' w1 w2) (hS : ∀ k, S' k → w.heap.size ≤ k) : Fr S w w2 :=
  ⟨h2.os.trans h1.os, h2.tape.trans h1.tape, h2.output.trans h1.output, Nat.le_trans h1.size h2.size, fun q hq hn => (h2.block q (Nat.lt_of_lt_of_le hq h1.size) (fun e => by have := hS q e; omega)).trans (h1.block q hq hn)⟩
set_option maxRecDepth 20000 in
set_option maxHeartbeats 4000000 in
theorem l3Reader_any (D : Nat) (v : Value) (bs : List Int) (p0 : Nat) (w : World) (h : RdAt w D v bs p0) (hB : Bytes bs) (hl : bs.length ≤ 16777216) :
    Calls Tryd.prog 32 #[.pointer (some ⟨D, 0, none⟩)] w fun e w' => (∃ hv hs p, e = .returned (.agg #[hv, .bool p]) ∧ w'.ownsRow w.heap.size 5 1 hv hs.length (hs.map (Value.int .u8)) ∧ Bytes hs ∧ hs.length ≤ 100) ∧ (∃ p, RdAt w' D v bs p) ∧ Fr (fun k => k = D) w w' := by
  obtain ⟨i0, hi, hz0, hz1, hz2⟩ := info_parts infoByteA
  have hb := hB.at0 p0
  obtain ⟨x, hx⟩ : ∃ x : Nat, at0 bs p0 = (x : Int) := ⟨(at0 bs p0).toNat, by omega⟩
  have hx255 : x ≤ 255 := by omega
  have hDw : D < w.heap.size := lt_of_cell h.1
  have t4 : (x : Int).tmod 4 = ((x % 4 : Nat) : Int) := by rw [Int.tmod_eq_emod_of_nonneg (by omega)]; omega
  have t8 : (x : Int).tmod 8 = ((x % 8 : Nat) : Int) := by rw [Int.tmod_eq_emod_of_nonneg (by omega)]; omega
  have t32 : (x : Int).tmod 32 = ((x % 32 : Nat) : Int) := by rw [Int.tmod_eq_emod_of_nonneg (by omega)]; omega
  have tq : (x : Int).tdiv 8 = ((x / 8 : Nat) : Int) := by rw [Int.tdiv_eq_ediv_of_nonneg (by omega)]; omega
  have t7 : ((x / 8 : Nat) : Int).tmod 7 = ((x / 8 % 7 : Nat) : Int) := by rw [Int.tmod_eq_emod_of_nonneg (by omega)]; omega
  have hnx := hide (fun W (E : Ext w W) => next_any D v bs p0 W (h.ext E) hB hl)
  rw [hx] at hnx
  have HR0 := hide h
  clear hx hb h
  by_cases h4 : x % 4 < 2
  · have h4I : ((x % 4 : Nat) : Int) < 2 := by omega
    go_enter Tryd.func32, Tryd.ntmps32
    go_wp2_with fail
    refine ((unhide hnx) _ ((Ext.refl w).alloc _)).mono ?_
    rintro e w1 ⟨rfl, hr1, fr1⟩
    have HR1 := hide hr1
    have b1 := fr1.kept (new_block w (.cells #[.slice none 0 0, .bool false] 24)) (by omega)
    have r0 := cells_of b1 0 _ rfl
    have r1 := cells_of b1 1 _ rfl
    have n0 : w1.frozen? ⟨w.heap.size, 0, none⟩ = false := Lib.frozen_of_heap b1 0
    have n1 : w1.frozen? ⟨w.heap.size, 1, none⟩ = false := Lib.frozen_of_heap b1 1
    have HF1 := hide (Fr.tr (Fr.of_ext ((Ext.refl w).alloc _)) fr1)
    clear hr1 fr1 b1
    go_wp2
    have f9 : Fr (fun q => q = w.heap.size) w1 ((w1.setCell ⟨w.heap.size, 0, none⟩ (.slice none 0 0)).setCell ⟨w.heap.size, 1, none⟩ (.bool false)) := Fr.setCell (S := fun q => q = w.heap.size) (Fr.setCell (S := fun q => q = w.heap.size) (Fr.refl _ w1) (a := ⟨w.heap.size, 0, none⟩) rfl (.slice none 0 0)) (a := ⟨w.heap.size, 1, none⟩) rfl (.bool false)
    refine bodyPost_ret (v := .agg #[.slice none 0 0, .bool false]) (by simp [results, Tryd.results32, go_sem, r0, r1]) rfl ⟨⟨.slice none 0 0, [], false, rfl, ⟨by simp, .inl ⟨rfl, rfl⟩⟩, fun n hn => by simp at hn, by simp⟩, ⟨_, (unhide HR0).keep (unhide HR1) (fr_out (unhide HF1) f9 (fun k hk => by omega)) (f9.block D (by have := (unhide HF1).size; omega) (by omega))⟩, fr_out (unhide HF1) f9 (fun k hk => by omega)⟩
  · have h4I : ¬ ((x % 4 : Nat) : Int) < 2 := by omega
    obtain ⟨t, ht, hc⟩ : ∃ t ∈ heads, ∀ W : World, (W.alloc (.cells #[.string { data := #[27] }, .string { data := #[27, 91] }, .string { data := #[228] }, .string { data := #[27, 91, 50, 48, 48, 126, 97, 98, 27, 91, 50, 48] }, .string { data := #[27, 79] }, .string { data := #[240, 159] }, .string { data := #[27, 91, 49, 59] }] 9)).cell? ⟨W.heap.size, x / 8 % 7, none⟩ = some (.string t) := by
      have hm : x / 8 % 7 < heads.length := Nat.mod_lt _ (by decide)
      refine ⟨heads[x / 8 % 7], List.getElem_mem hm, fun W => ?_⟩
      exact cells_of (new_block W _) _ _ (by show (heads.map Value.string).toArray[x / 8 % 7]? = _; simp [hm])
    have hts := heads_small t ht
    have hm7 : x / 8 % 7 < 7 := Nat.mod_lt _ (by decide)
    have hmI : ((x : Int) / 8) % 7 < 7 := by omega
    obtain ⟨ps, rfl, hpb⟩ : ∃ ps, t = toBA ps ∧ Bytes ps := ⟨baL t, by rw [toBA_baL], baL_bytes t⟩
    rw [toBA_size] at hts
    clear ht
    go_enter Tryd.func32, Tryd.ntmps32
    go_wp2_with fail
    refine ((unhide hnx) _ ((Ext.refl w).alloc _)).mono ?_
    rintro e w1 ⟨rfl, hr1, fr1⟩
    have HR1 := hide hr1
    have b1 := fr1.kept (new_block w (.cells #[.slice none 0 0, .bool false] 24)) (by omega)
    have HB1 := hide b1
    have HF1 := hide (Fr.tr (Fr.of_ext ((Ext.refl w).alloc _)) fr1)
    clear hr1 fr1 b1
    have hc1 := hc w1
    obtain ⟨V, hV⟩ : ∃ V, V = w1.alloc (.cells #[.string { data := #[27] }, .string { data := #[27, 91] }, .string { data := #[228] }, .string { data := #[27, 91, 50, 48, 48, 126, 97, 98, 27, 91, 50, 48] }, .string { data := #[27, 79] }, .string { data := #[240, 159] }, .string { data := #[27, 91, 49, 59] }] 9) := ⟨_, rfl⟩
    have EV : Ext w1 V := by rw [hV]; exact (Ext.refl w1).alloc _
    have hzV : V.heap.size = w1.heap.size + 1 := by rw [hV]; simp
    obtain ⟨cv, w3, hrun, hIn, he3⟩ := run_s2i (P := Tryd.prog) V _ _ _ Tryd.underlying9 Tryd.underlying22 Tryd.underlying5 ps hpb
    rw [hV] at hrun
    obtain ⟨ca, cc, rfl, _, _⟩ := id hIn
    have HE3 := hide (EV.trans he3)
    have HIn := hide hIn
    have hcon := hide (specReadKeys_any none 0 [] ps ((x : Int) % 8 == 7) _ w3 ⟨none, 0, rfl, by simp, fun h => by simp at h⟩ hIn (fun n hn => by simp at hn) hpb (by simp; omega))
    clear hIn he3 EV hV
    go_wp2_with fail
    refine (unhide hcon).mono ?_
    rintro e w4 ⟨⟨hv, kv, rs, rfl, o1, o2⟩, F4⟩
    rw [List.nil_append] at o1 o2 ⊢
    obtain ⟨R, hR⟩ : ∃ R, R = rk ps ((x : Int) % 8 == 7) := ⟨_, rfl⟩
    rw [← hR] at o1 o2 ⊢
    clear hR
    obtain ⟨Z, hZ⟩ : ∃ Z, Z = ps.drop R.2.1 := ⟨_, rfl⟩
    rw [← hZ] at o1
    have hZb : Bytes Z := by rw [hZ]; exact fun n hn => hpb n (List.mem_of_mem_drop hn)
    have hZl : Z.length ≤ 24 := by rw [hZ]; simp; omega
    clear hZ
    have z3 := (unhide HE3).size
    have z4 := F4.size
    obtain ⟨oa, oc, rfl, _, _⟩ := ints_of_owns o1
    have b1 := F4.kept ((unhide HE3).kept (unhide HB1))
    have zF := (unhide HF1).size
    have z1 := lt_of_block (unhide HB1)
    have HO1 := hide o1
    have HX := hide ((unhide HE3).trans F4)
    have hD4 : D ≠ w4.heap.size := by omega
    have e3 : w4.heap[D]? = w1.heap[D]? := ((unhide HE3).trans F4).heap (by omega)
    have HD := hide e3
    have HF4 : Hid (Fr (fun k => k = D) w w4) := hide (Fr.tr (unhide HF1) (Fr.of_ext ((unhide HE3).trans F4)))
    have HB4 := hide b1
    clear o1 o2 F4 hcon hrun b1 e3
    have E5 := (Ext.refl w4).alloc (.cells #[.slice oa Z.length oc, .bool R.2.2] 24)
    have n5 := new_block w4 (.cells #[.slice oa Z.length oc, .bool R.2.2] 24)
    by_cases h30 : x % 32 = 30
    · have h30I : (x : Int) % 32 = 30 := by omega
      have E6 := E5.alloc (.cells #[.int .u8 120, .int .u8 121] 5)
      have HO6 := hide (E6.owns (unhide HO1))
      have HE6 := hide E6
      have HN6 := hide (((Ext.refl _).alloc (.cells #[.int .u8 120, .int .u8 121] 5)).kept n5)
      clear E5 n5 E6
      go_wp2_with (at_builtin; go_must (refine wpList_append_lies _ rfl _ _ 22 rfl w3.heap.size 5 i0 (.int .u8 0) 1 1 Tryd.underlying22 hi hz0 hz1 hz2 rfl (by decide) _ _ _ rfl (unhide HO6) ⟨w4.heap.size + 1, 0, none⟩ 2 2 ([120, 121].map (Value.int .u8)) rfl rfl ?_ (ints_oneCell _ _) (by omega) ?_ ?_ ?_ _ rfl ?_))
      · have := news_cells (w := w4.alloc (.cells #[.slice oa Z.length oc, .bool R.2.2] 24)) [.int .u8 120, .int .u8 121] 5
        rw [show (w4.alloc (.cells #[.slice oa Z.length oc, .bool R.2.2] 24)).heap.size = w4.heap.size + 1 by simp] at this
        exact this
      · unfold maxLen; omega
      · omega
      · simp; omega
      · intro g' cap' w6 hown hgrow hat0 _
        have hat : Value.ownBlock (.slice oa Z.length oc) = some g' ∨ g' = w4.heap.size + 2 := hat0.imp id (fun e => by rw [e])
        have own1 : ∀ q, Value.ownBlock (.slice oa Z.length oc) = some q → w3.heap.size ≤ q ∧ q < w4.heap.size := fun q hq => (unhide HO1).lt q hq
        have f6 : Fr (fun q => Value.ownBlock (.slice oa Z.length oc) = some q) _ w6 := Fr.grown (Fr.refl _ _) hgrow (fun k hk => hk)
        have b6 := f6.kept (unhide HN6) (fun e => by have := own1 _ e; omega)
        have r6 := f6.kept ((unhide HE6).kept (unhide HB4)) (fun e => by have := own1 _ e; omega)
        have k0 := cells_of b6 0 _ rfl
        have k1 := cells_of b6 1 _ rfl
        have j0 : w6.frozen? ⟨w4.heap.size, 0, none⟩ = false := Lib.frozen_of_heap b6 0
        have r0 := cells_of r6 0 _ rfl
        have r1 := cells_of r6 1 _ rfl
        have n0 : w6.frozen? ⟨w.heap.size, 0, none⟩ = false := Lib.frozen_of_heap r6 0
        have n1 : w6.frozen? ⟨w.heap.size, 1, none⟩ = false := Lib.frozen_of_heap r6 1
        have hgl := (hown.lt g' rfl).1
        have HO7 := hide hown
        have HF6 := hide (Fr.tr (Fr.of_ext (unhide HE6)) f6)
        have z6 := (Fr.tr (Fr.of_ext (unhide HE6)) f6).size
        clear hown hgrow f6 b6 r6 hat0
        have hne : ¬ w4.heap.size = w.heap.size := by omega
        go_wp2
        have f9 : Fr (fun q => q = w4.heap.size ∨ q = w.heap.size) w6 (((w6.setCell ⟨w4.heap.size, 0, none⟩ (.slice (some ⟨g', 0, none⟩) (Z.length + 2) cap')).setCell ⟨w.heap.size, 0, none⟩ (.slice (some ⟨g', 0, none⟩) (Z.length + 2) cap')).setCell ⟨w.heap.size, 1, none⟩ (.bool R.2.2)) :=
          Fr.setCell (S := fun q => q = w4.heap.size ∨ q = w.heap.size) (Fr.setCell (S := fun q => q = w4.heap.size ∨ q = w.heap.size) (Fr.setCell (S := fun q => q = w4.heap.size ∨ q = w.heap.size) (Fr.refl _ w6) (a := ⟨w4.heap.size, 0, none⟩) (.inl rfl) _) (a := ⟨w.heap.size, 0, none⟩) (.inr rfl) _) (a := ⟨w.heap.size, 1, none⟩) (.inr rfl) _
        have fA := fr_out (fr_out (unhide HF4) (unhide HF6) (fun k hk => by have := own1 k hk; omega)) f9 (fun k hk => by omega)
        have hDD := (f9.block D (by omega) (by omega)).trans (((unhide HF6).block D (by omega) (fun e => by have := own1 D e; omega)).trans (unhide HD))
        have hO9 := f9.owns (unhide HO7) (fun q hq e => by
          have e2 : g' = q := by simpa [Value.ownBlock] using hq
          rcases hat with h | h
          · have := own1 g' h
            omega
          · omega)
        refine bodyPost_ret (v := .agg #[.slice (some ⟨g', 0, none⟩) (Z.length + 2) cap', .bool R.2.2]) (by simp [results, Tryd.results32, go_sem, r0, r1]) rfl ⟨⟨_, Z ++ [120, 121], R.2.2, rfl, ?_, fun n hn => ?_, by simp; omega⟩, ⟨_, (unhide HR0).keep (unhide HR1) fA hDD⟩, fA⟩
        · have := owns_mono hO9 (show w.heap.size ≤ w3.heap.size by omega)
          rw [List.length_append, List.map_append]
          exact this
        · rcases List.mem_append.1 hn with h | h
          · exact hZb n h
          · simp at h
            omega
    · have h30I : ¬ (x : Int) % 32 = 30 := by omega
      have r0 := cells_of (E5.kept (unhide HB4)) 0 _ rfl
      have r1 := cells_of (E5.kept (unhide HB4)) 1 _ rfl
      have n0 := Lib.frozen_of_heap (E5.kept (unhide HB4)) 0
      have n1 := Lib.frozen_of_heap (E5.kept (unhide HB4)) 1
      clear n5
      go_wp2
      have f9 : Fr (fun q => q = w.heap.size) w4 (((w4.alloc (.cells #[.slice oa Z.length oc, .bool R.2.2] 24)).setCell ⟨w.heap.size, 0, none⟩ (.slice oa Z.length oc)).setCell ⟨w.heap.size, 1, none⟩ (.bool R.2.2)) :=
        Fr.setCell (S := fun q => q = w.heap.size) (Fr.setCell (S := fun q => q = w.heap.size) (Fr.of_ext E5) (a := ⟨w.heap.size, 0, none⟩) rfl _) (a := ⟨w.heap.size, 1, none⟩) rfl _
      have fA := fr_out (unhide HF4) f9 (fun k hk => by omega)
      have hDD := (f9.block D (by omega) (by omega)).trans (unhide HD)
      have hO9 := f9.owns (unhide HO1) (fun q hq e => by have := (unhide HO1).lt q hq; omega)
      refine bodyPost_ret (v := .agg #[.slice oa Z.length oc, .bool R.2.2]) (by simp [results, Tryd.results32, go_sem, r0, r1]) rfl ⟨⟨_, Z, R.2.2, rfl, owns_mono hO9 (by omega), hZb, by omega⟩, ⟨_, (unhide HR0).keep (unhide HR1) fA hDD⟩, fA⟩
end Go.Proofs.YtbieoijeilhadaaDoor
