import Derived.Test.YtjfnieodpdklfaaGreatDoorDec
import Derived.Test.YtjfnieodpdklfaaGreatDoorBOk
import Derived.Deep.RegionHeldLaw
namespace Go.Proofs.YtjfnieodpdklfaaGreatDoor
open Go.RowKit

set_option maxRecDepth 10000 in
set_option maxHeartbeats 4000000 in
theorem specPaint_any (v : Value) (row col : Int) (n : Nat) (tx : Nat → ByteArray) (w : World) (hv : Row1At w v n (fun j => .string (tx j))) (hn : n ≤ 1048576) (hs : slen tx n ≤ 274877906944) :
    Calls Tryz.prog 19 #[blV v row col] w fun e w' => ∃ u, e = .returned u ∧ w'.ownsRow w.heap.size 5 1 u (paintL n tx row col).length ((paintL n tx row col).map (Value.int .u8)) ∧ Ext w w' := by
  obtain ⟨i0, hi, hz0, hz1, hz2⟩ := u8_parts
  have hcon := hide (fun W (hW : Ext w W) => l6Ok_any v row col n tx W (hv.ext hW))
  obtain ⟨ao, cap, hvv, _, hxa⟩ := id hv
  subst hvv
  have HX := hide hxa
  clear hv hxa
  unfold blV at *
  go_enter Tryz.func19, Tryz.ntmps19
  go_wp2_with fail
  refine ((unhide hcon) _ (((Ext.refl _).alloc _).alloc _)).mono ?_
  rintro e w1 ⟨rfl, F1⟩
  have ho0 := F1.owns (World.ownsRow_made (w.alloc (.cells #[.slice ao n cap, .int .i64 row, .int .i64 col] 53)) #[] 0 (Nat.le_refl _) (by unfold maxLen; omega) (by simp) (e := 5) (size := 1))
  have HO0 : Hid (w1.ownsRow (w.heap.size + 1) 5 1 (.slice (some ⟨w.heap.size + 1, 0, none⟩) 0 0) 0 []) := hide (by simpa using ho0)
  obtain ⟨W1, hW1⟩ : ∃ W1, W1 = w.alloc (.cells #[.slice ao n cap, .int .i64 row, .int .i64 col] 53) := ⟨_, rfl⟩
  have q0 : W1.cell? ⟨w.heap.size, 0, none⟩ = some (.slice ao n cap) := by rw [hW1]; simp [go_sem]
  have q1 : W1.cell? ⟨w.heap.size, 1, none⟩ = some (.int .i64 row) := by rw [hW1]; simp [go_sem]
  have q2 : W1.cell? ⟨w.heap.size, 2, none⟩ = some (.int .i64 col) := by rw [hW1]; simp [go_sem]
  have hz9 : W1.heap.size = w.heap.size + 1 := by rw [hW1]; simp
  have EW : Ext w W1 := by rw [hW1]; exact (Ext.refl w).alloc _
  have E1 : Ext W1 w1 := by rw [hW1]; exact ((Ext.refl _).alloc _).trans F1
  clear F1 ho0 hW1
  by_cases hok : bOk n row col
  · have hp : Hid (paintL n tx row col = rowsL tx n ++ (goL ((n : Int) - 1 - row) 65 ++ goL (col + 1) 71)) := by refine hide ?_; rw [paintL, if_pos hok]
    rw [bOk_t hok]
    go_wp2
    go_loopw [3, 4] (fun o i wr => ∃ k : Nat, k ≤ n ∧ i = .int .i64 k ∧ Hid (wr.ownsRow (w.heap.size + 1) 5 1 o (rowsL tx k).length ((rowsL tx k).map (Value.int .u8))) ∧ Ext W1 wr) (fun _ i _ => n - (intOf i).toNat)
    case atStart => exact ⟨0, Nat.zero_le _, rfl, HO0, E1⟩
    case round =>
      obtain ⟨k, hk, rfl, HO, hext⟩ := hrel
      have c0 := hext.cell q0
      have hE := EW.trans hext
      have hsz := hext.size
      by_cases hlt : k < n
      · obtain ⟨b, off, hao, hc⟩ := (unhide HX) (by omega)
        subst hao
        have g1 := hE.cell (hc k hlt)
        have bk : (k : Int) < (n : Int) := by omega
        have hl1 := rowsL_len tx k
        have hl2 := slen_le tx n (k + 1) (by omega)
        rw [slen] at hl2
        have hstep : Hid (rowsL tx (k + 1) = rowsL tx k ++ ((if k = 0 then [] else [13, 10]) ++ baL (tx k))) := rfl
        obtain ⟨L, hL⟩ : ∃ L, L = rowsL tx k := ⟨_, rfl⟩
        rw [← hL] at HO hl1 hstep
        clear hL
        by_cases k0 : k = 0
        · subst k0
          rw [if_pos rfl, List.nil_append] at hstep
          rw [Nat.add_zero] at g1
          obtain ⟨cap0, w2, hrun, hcells, E2⟩ := s2i wr (tx 0)
          have HC := hide hcells
          have hsz2 := E2.size
          have hO2 := hide (E2.owns (unhide HO))
          clear hcells
          go_wp2_with (at_builtin; go_must (refine wpList_append_own _ rfl _ _ 25 rfl (w.heap.size + 1) 5 i0 (.int .u8 0) 1 1 Tryz.underlying25 hi hz0 hz1 hz2 rfl (by decide) _ _ _ rfl (unhide hO2) ⟨wr.heap.size, 0, none⟩ (tx 0).size cap0 ((baL (tx 0)).map (Value.int .u8)) rfl (by simp [baL_len]) (unhide HC) (ints_oneCell _ _) (by unfold maxLen; omega) (by omega) (by omega) ?_); intro v3 w3 ho3 hg3 hq3; rw [← List.map_append, ← baL_len, ← List.length_append, ← unhide hstep] at ho3; have HO3 := hide ho3; have HG3 := hide ((hext.trans E2).grown hg3 (fun k hk => by rw [hz9]; exact ((unhide hO2).lt k hk).1)); clear ho3 hg3 hq3)
          go_roundw
          case rel => exact ⟨0 + 1, by omega, by go_num, HO3, unhide HG3⟩
          case measure => simp [intOf]; omega
        · rw [if_neg k0] at hstep
          have hkp : (0 : Int) < (k : Int) := by omega
          have tok1 : True := trivial
          go_wp2_with (first | (at_builtin; have _t := tok1; go_must (refine wpList_append_own _ rfl _ _ 25 rfl (w.heap.size + 1) 5 i0 (.int .u8 0) 1 1 Tryz.underlying25 hi hz0 hz1 hz2 rfl (by decide) _ _ _ rfl ((unhide HO).alloc _) ⟨wr.heap.size, 0, none⟩ 2 2 (([13, 10] : List Int).map (Value.int .u8)) rfl rfl (news_cells _ _) (ints_oneCell _ _) (by unfold maxLen; omega) (by omega) (by simp; omega) ?_); intro v2 w2 ho2 hg2 hq2; rw [← List.map_append, show L.length + 2 = (L ++ [13, 10]).length by simp] at ho2; have hE2 := (hext.alloc _).grown hg2 (fun k hk => by rw [hz9]; exact ((unhide HO).lt k hk).1); have hsz2 := hE2.size; have c02 := hE2.cell q0; have g12 := (EW.trans hE2).cell (hc k hlt); obtain ⟨cap0, w3, hrun, hcells, E3⟩ := s2i w2 (tx k); have HC := hide hcells; have hsz3 := E3.size; have hO3 := hide (E3.owns ho2); have HE3 := hide (hE2.trans E3); have hm2b : (L ++ [13, 10]).length = L.length + 2 := (by simp); clear tok1 ho2 hg2 hq2 hcells) | (at_builtin; go_must (refine wpList_append_own _ rfl _ _ 25 rfl (w.heap.size + 1) 5 i0 (.int .u8 0) 1 1 Tryz.underlying25 hi hz0 hz1 hz2 rfl (by decide) _ _ _ rfl (unhide hO3) ⟨w2.heap.size, 0, none⟩ (tx k).size cap0 ((baL (tx k)).map (Value.int .u8)) rfl (by simp [baL_len]) (unhide HC) (ints_oneCell _ _) (by unfold maxLen; omega) (by omega) (by omega) ?_); intro v4 w4 ho4 hg4 hq4; rw [← List.map_append, ← baL_len, ← List.length_append, List.append_assoc, ← unhide hstep] at ho4; have HO4 := hide ho4; have HG4 := hide ((unhide HE3).grown hg4 (fun k hk => by rw [hz9]; exact ((unhide hO3).lt k hk).1)); clear ho4 hg4 hq4))
          go_roundw
          case rel => exact ⟨k + 1, by omega, by go_num, HO4, unhide HG4⟩
          case measure => simp [intOf]; omega
      · obtain rfl : k = n := by omega
        have hb9 : ¬ (k : Int) < (k : Int) := by omega
        have hok' := id hok
        unfold bOk at hok'
        have c1 := hext.cell q1
        have c2 := hext.cell q2
        have hl1 := rowsL_len tx k
        have hg1 := goL_len ((k : Int) - 1 - row) 65 (by omega)
        have hg2 := goL_len (col + 1) 71 (by omega)
        obtain ⟨X, hX⟩ : ∃ X, X = goL ((k : Int) - 1 - row) 65 ++ goL (col + 1) 71 := ⟨_, rfl⟩
        have hXb : Bytes X := by rw [hX]; exact (goL_bytes _ _ (by omega) (by omega)).app (goL_bytes _ _ (by omega) (by omega))
        have hXl : X.length ≤ 22 := by rw [hX, List.length_append]; omega
        have hs1 : (toBA (goL ((k : Int) - 1 - row) 65)).size + (toBA (goL (col + 1) 71)).size ≤ 9223372036854775807 := by rw [toBA_size, toBA_size]; omega
        have hadd := fun W => run_string_add_sum (P := Tryz.prog) W _ _ hs1
        rw [toBA_app, ← hX] at hadd
        rw [← hX] at hp
        have hcA := hide (fun W => l6Go_any ((k : Int) - 1 - row) 65 (by omega) W)
        have hcG := hide (fun W => l6Go_any (col + 1) 71 (by omega) W)
        have e65 : toBA [65] = { data := #[65] } := rfl
        have e71 : toBA [71] = { data := #[71] } := rfl
        rw [e65] at hcA
        rw [e71] at hcG
        have hXX := hX
        clear hs1 hX e65 e71
        have hXp : 0 < X.length := by rw [hXX, List.length_append, goL, goL, if_neg (show ¬ col + 1 ≤ 0 by omega)]; simp; omega
        clear hXX
        have hw1 : IntKind.i64.wrap ((k : Int) - 1) = (k : Int) - 1 := by rw [IntKind.wrap_i64]; omega
        have hw2 : IntKind.i64.wrap ((k : Int) - 1 - row) = (k : Int) - 1 - row := by rw [IntKind.wrap_i64]; omega
        have hw3 : IntKind.i64.wrap (col + 1) = col + 1 := by rw [IntKind.wrap_i64]; omega
        have tokA : True := trivial
        go_wp2
        go_region_held_law (fun W => W.cell? ⟨w.heap.size, 0, none⟩ = some (.slice ao k cap) ∧ W.cell? ⟨w.heap.size, 1, none⟩ = some (.int .i64 row) ∧ W.cell? ⟨w.heap.size, 2, none⟩ = some (.int .i64 col)) (first | exact ⟨c0, c1, c2⟩ | exact ⟨d0, d1, d2⟩ | exact ⟨f0, f1, f2⟩ | exact ⟨k0, k1, k2⟩ | exact ⟨m0, m1, m2⟩)
          (first
            | (go_at_call 51; have _t := tokA; refine ((unhide hcA) _).mono ?_; rintro e w2 ⟨rfl, hE2⟩; have E12 := (Ext.refl wr).drew.trans hE2; have d0 := E12.cell c0; have d1 := E12.cell c1; have d2 := E12.cell c2; have HE12 := hide E12; clear hE2 E12 tokA)
            | (go_at_call 51; refine ((unhide hcG) _).mono ?_; rintro e w3 ⟨rfl, hE3⟩; have E13 := (unhide HE12).trans hE3; have f0 := E13.cell c0; have f1 := E13.cell c1; have f2 := E13.cell c2; obtain ⟨cap4, w4, hrun, hcells, E4⟩ := s2i w3 (toBA X); rw [baL_toBA hXb] at hcells; rw [toBA_size] at hrun; have E14 := E13.trans E4; have k0 := E14.cell c0; have k1 := E14.cell c1; have k2 := E14.cell c2; have HC4 := hide hcells; have HE14 := hide E14; have hsz4 := E14.size; clear hE3 E13 E14 hcells)
            | (refine step_append_lies _ (by rfl) _ _ _ (by rfl) (w.heap.size + 1) 5 i0 (.int .u8 0) 1 1 Tryz.underlying25 hi hz0 hz1 hz2 rfl (by decide) _ _ _ (by rfl) ((unhide HE14).owns (unhide HO)) ⟨w3.heap.size, 0, none⟩ X.length cap4 (X.map (Value.int .u8)) (by rfl) (by simp) (unhide HC4) (ints_oneCell _ _) hXp (by unfold maxLen; omega) (by omega) (by omega) _ rfl ?_; intro g5 cap5 w5 ho5 hg5 hq5 hz5; rw [← List.map_append, ← List.length_append, ← unhide hp] at ho5; have hE5 := (hext.trans (unhide HE14)).grown hg5 (fun j hj => (by rw [hz9]; exact ((unhide HO).lt j hj).1)); have m0 := hE5.cell q0; have m1 := hE5.cell q1; have m2 := hE5.cell q2; have HO5 := hide ho5; have HE5 := hide hE5; clear ho5 hg5 hq5 hz5 hE5))
        all_goals
          go_wp2
          refine bodyPost_ret (v := .slice (some ⟨g5, 0, none⟩) ((rowsL tx k).length + X.length) cap5) (by simp [results, Tryz.results19]) rfl ⟨_, rfl, ?_, EW.trans (unhide HE5)⟩
          have h9 := unhide HO5
          have hlen : (paintL k tx row col).length = (rowsL tx k).length + X.length := by rw [unhide hp, List.length_append]
          rw [hlen] at h9 ⊢
          exact owns_mono h9 (Nat.le_succ _)
  · have hp : Hid (paintL n tx row col = []) := by refine hide ?_; rw [paintL, if_neg hok]
    rw [bOk_f hok]
    go_wp2
    go_ret
    refine ⟨_, rfl, ?_, EW.trans E1⟩
    rw [unhide hp]
    exact owns_mono (unhide HO0) (by omega)
end Go.Proofs.YtjfnieodpdklfaaGreatDoor
