import Derived.Test.YtinfdhbnljnifaaGreatDoorFsT
import Derived.Test.YtinfdhbnljnifaaGreatDoorFfC
import Derived.Test.YtinfdhbnljnifaaGreatDoorTextOf
namespace Go.Proofs.YtinfdhbnljnifaaGreatDoor
open Go.RowKit
section
variable {base : Nat} {X : Nat → Prop} {d : SD} {gv : Value} {rv : Nat → Value} {hv bv : Value}
set_option linter.unusedSimpArgs false in
set_option maxRecDepth 10000 in
set_option maxHeartbeats 4000000 in
theorem l2Show_put2 (w : World) (h : ScrV w base X d gv rv bv) (ha hc : Nat) (hs : Option Addr) (hhv : hv = .slice hs ha hc) (r : Int) (hr0 : 0 ≤ r) (hr1 : r ≤ 1114111) (hk : OkP d) (hvr : Utf8.valid r = true) (hct : ¬ (r < 32 ∨ (127 ≤ r ∧ r ≤ 159))) (hw0 : wid r = 2) (hw : rsz (d.tx 0) (d.C 0) ≤ 1073741824) (hnb : d.nb ≤ 16777216) :
    Calls Tryz.prog 43 #[scrV d gv hv bv, .int .i64 r] w (SpR w base X (d.put rowT (toBA (encR r)) 2) hv) := by
  obtain ⟨gb, gk, gc, _, hgv, _⟩ := id h.grid
  obtain ⟨ba, bc, hbv⟩ : ∃ a c, bv = .slice a d.nb c := by obtain ⟨_, h9, _⟩ := h.back; exact owns_ln h9
  subst hgv
  subst hbv
  subst hhv
  have wr : IntKind.i32.wrap r = r := by rw [IntKind.wrap_i32] <;> omega
  obtain ⟨V, hV⟩ : ∃ V, V = (w.alloc (.cells #[.int .i64 d.cols, .int .i64 d.rows, .slice (some ⟨gb, gk, none⟩) d.R gc, .int .i64 d.row, .int .i64 d.col, .bool d.late, .slice hs ha hc, .slice ba d.nb bc] 26)).alloc (.cells #[.int .i64 0, .int .i64 0, .slice none 0 0, .int .i64 0, .int .i64 0, .bool false, .slice none 0 0, .slice none 0 0] 26) := ⟨_, rfl⟩
  have hb0 := sp_alloc w d (.slice (some ⟨gb, gk, none⟩) d.R gc) (.slice hs ha hc) (.slice ba d.nb bc)
  rw [← hV] at hb0
  have HRW := hide (specRW_any r V (by omega) (by omega))
  rw [hw0] at HRW
  have HVV := hide hV
  have HSP := hide hb0
  have H := hide h
  have n32 : ¬ r < 32 := by omega
  have HK := hide hk
  clear h hV hb0 hw0 hk
  unfold scrV
  go_enter Tryz.func43, Tryz.ntmps43
  go_wp2_with fail
  rw [← unhide HVV]
  refine (unhide HRW).mono ?_
  rintro e w1 ⟨rfl, F1⟩
  have E1 := Ext.of_below F1
  have HE1 := hide ((unhide HSP).ext.trans E1)
  have HSB := hide (E1.kept (unhide HSP).s)
  have HSZ := hide (E1.kept (unhide HSP).z)
  clear E1 F1
  have HU := hide (fun W => l1Utf8_any r W hr0 hr1)
  have een : encL r = encR r := by unfold encR; rw [if_pos hvr]
  rw [een] at HU
  have c0 := cells_of (unhide HSB) 0 _ rfl
  have c1 := cells_of (unhide HSB) 1 _ rfl
  have c2 := cells_of (unhide HSB) 2 _ rfl
  have c3 := cells_of (unhide HSB) 3 _ rfl
  have c4 := cells_of (unhide HSB) 4 _ rfl
  have c5 := cells_of (unhide HSB) 5 _ rfl
  have c6 := cells_of (unhide HSB) 6 _ rfl
  have c7 := cells_of (unhide HSB) 7 _ rfl
  have hsz := size_bd (unhide HK)
  have wc : IntKind.i64.wrap (d.cols - 1) = d.cols - 1 := by rw [IntKind.wrap_i64] <;> omega
  obtain ⟨d1, hd1⟩ : ∃ x, x = d.wrapL rowT 2 := ⟨_, rfl⟩
  have hok1 := ok_wrapL rowT (unhide HK) 2 (by omega)
  rw [← hd1] at hok1
  have HD1 : Hid (OkP d1 ∧ d1.col + 2 ≤ d1.cols) := hide ⟨hok1.1, hok1.2.2⟩
  have HDE := hide hd1
  clear hok1 hd1
  have HDn := hide (l2Down_any w1 (((unhide H).ext (unhide HE1)).keepZ (Y := (fun q => X q ∨ q = w.heap.size ∨ q = w.heap.size + 1)) (unhide H) (unhide HSB) (unhide HSZ)) ha hc hs rfl (unhide HK) hw hnb)
  unfold scrV at HDn
  have hr9 : (127 ≤ r ∧ ¬ r ≤ 159) ∨ ¬ 127 ≤ r := by omega
  clear hct
  rcases hr9 with ⟨h127, h159⟩ | h127
  · cases hl : d.late with
    | true =>
      rw [hl] at c5 HDn
      go_wp2_with fail
      refine (unhide HDn).mono ?_
      rintro e w3 ⟨gv3, rv3, bv3, rfl, hV3, f3⟩
      obtain ⟨gb3, gk3, gc3, _, hgv3, _⟩ := id hV3.grid
      obtain ⟨ba3, bc3, hbv3⟩ : ∃ a c, bv3 = .slice a (d.down rowT).nb c := by obtain ⟨_, h9, _⟩ := hV3.back; exact owns_ln h9
      subst hgv3
      subst hbv3
      have HSB3 := hide (f3.kept (unhide HSB) (fun x => x.2 (.inr (.inl rfl))))
      have HSZ3 := hide (f3.kept (unhide HSZ) (fun x => x.2 (.inr (.inr rfl))))
      have HV3 := hide hV3
      have HF3 := hide f3
      unfold scrV
      clear hV3 f3 HDn c0 c1 c2 c3 c4 c5 c6 c7
      go_wp2_with (refine wpList_store_blk rfl 26 _ _ rfl rfl w.heap.size rfl _ _ _ rfl (unhide HSB3) infoScr8 rfl (by simp [Value.oneCell']) ?_; intro Y HY9 hY9; have k4 := cells_of HY9 4 _ rfl; have k4f : Y.frozen? ⟨w.heap.size, 4, none⟩ = false := Lib.frozen_of_heap HY9 4; have HYB := hide HY9; have HYF := hide hY9; clear HY9 hY9; refine StopQ.intro ?_)
      show wpList _ _ _ _ _ _
      obtain ⟨wa, hwa⟩ : ∃ wa, wa = Y.setCell ⟨w.heap.size, 4, none⟩ (.int .i64 0) := ⟨_, rfl⟩
      have fa : Fr (fun k => k = w.heap.size) Y wa := by rw [hwa]; exact Fr.setCell (S := fun k => k = w.heap.size) (Fr.refl _ _) (a := ⟨w.heap.size, 4, none⟩) rfl _
      have hWY : ScrW Y w.heap.size base (fun q => X q ∨ q = w.heap.size + 1) (d.down rowT) (.slice (some ⟨gb3, gk3, none⟩) (d.down rowT).R gc3) rv3 (.slice hs ha hc) (.slice ba3 (d.down rowT).nb bc3) := (((unhide HV3).fr (unhide HYF) (fun g9 hg9 e9 => ((unhide HV3).kept g9 (.inr (.inl e9))).2 hg9)).keep (fun q hq => hq.imp id .inr)).toW (unhide HYB) ((unhide HV3).kept _ (.inr (.inl rfl))).2
      have HA : Hid (ScrW wa w.heap.size base (fun q => X q ∨ q = w.heap.size + 1) d1 (.slice (some ⟨gb3, gk3, none⟩) (d.down rowT).R gc3) rv3 (.slice hs ha hc) (.slice ba3 (d.down rowT).nb bc3)) := hide (by
        have h9 := hWY.head fa (d.down rowT).row 0 (d.down rowT).late (by rw [hwa]; exact set_blk2 hWY.box rfl)
        have e9 : d1 = { d.down rowT with col := 0 } := by rw [unhide HDE]; unfold SD.wrapL; rw [if_pos (.inl hl)]
        rw [e9]
        exact h9)
      have HFA : Hid (FrV base X w wa) := hide (Fr.tr (Fr.tr (Fr.tr (Fr.of_ext (unhide HE1)) ((unhide HF3).mono (fun q hq => ⟨hq.1, fun hx => hq.2 (.inl hx)⟩))) ((unhide HYF).mono (fun q hq => ⟨by have := (unhide H).top; omega, fun hx => by have := ((unhide H).kept q hx).1; omega⟩))) (fa.mono (fun q hq => ⟨by have := (unhide H).top; omega, fun hx => by have := ((unhide H).kept q hx).1; omega⟩)))
      have HZA : Hid (wa.heap[w.heap.size + 1]? = some (.cells #[.int .i64 0, .int .i64 0, .slice none 0 0, .int .i64 0, .int .i64 0, .bool false, .slice none 0 0, .slice none 0 0] 26 (0, 0))) := hide (fa.kept ((unhide HYF).kept (unhide HSZ3) (by omega)) (by omega))
      have HWA := hide hwa
      have eR : (d.down rowT).R = d1.R := by rw [unhide HDE]; unfold SD.wrapL; rw [if_pos (.inl hl)]
      have eN : (d.down rowT).nb = d1.nb := by rw [unhide HDE]; unfold SD.wrapL; rw [if_pos (.inl hl)]
      rw [eR, eN] at HA
      clear fa hWY hwa HV3 HF3 HYF HYB HSB3 HSZ3 eR eN
      generalize rv3 = rva at *
      have ok1 := (unhide HD1).1
      have hs1 := size_bd ok1
      have hrow1 := ok1.row
      have hcol1 := ok1.col
      have hle1 := (unhide HD1).2
      obtain ⟨i0, ei0⟩ : ∃ i0 : Nat, d1.row = i0 := ⟨d1.row.toNat, by omega⟩
      obtain ⟨j0, ej0⟩ : ∃ j0 : Nat, d1.col = j0 := ⟨d1.col.toNat, by omega⟩
      have hR1 := ok1.R
      have hiR : i0 < d1.R := by omega
      have hCi := ok1.C i0 hiR
      have hjC : j0 + 2 ≤ d1.C i0 := by omega
      obtain ⟨g, cap, hg⟩ : ∃ g cap, rva i0 = .slice (some ⟨g, 0, none⟩) (d1.C i0) cap := by
        rcases ((unhide HA).row i0 hiR).form with ⟨_, e⟩ | ⟨g, cap, e⟩
        · omega
        · exact ⟨g, cap, e⟩
      obtain ⟨cur9, hgb9, hgA9⟩ : ∃ cur, wa.heap[gb3]? = some (.cells cur 81 (0, 0)) ∧ ∀ j, j < d1.R → cur[gk3 + j]? = some (rva j) := by
        obtain ⟨g', k', c', cur, e, _, hgb, _, _, _, hgA⟩ := id (unhide HA).grid
        simp only [Value.slice.injEq, Option.some.injEq, Addr.mk.injEq, and_true, true_and] at e
        obtain ⟨⟨rfl, rfl⟩, rfl⟩ := e
        exact ⟨cur, hgb, hgA⟩
      have r1 : wa.cell? ⟨gb3, gk3 + i0, none⟩ = some (.slice (some ⟨g, 0, none⟩) (d1.C i0) cap) := by rw [← hg]; exact cells_of hgb9 (gk3 + i0) _ (hgA9 i0 hiR)
      have a2 := cells_of (unhide HA).box 2 _ rfl
      have a3 : wa.cell? ⟨w.heap.size, 3, none⟩ = some (.int .i64 (i0 : Int)) := by rw [← ei0]; exact cells_of (unhide HA).box 3 _ rfl
      have a4 : wa.cell? ⟨w.heap.size, 4, none⟩ = some (.int .i64 (j0 : Int)) := by rw [← ej0]; exact cells_of (unhide HA).box 4 _ rfl
      have hrow9 : OwnC wa base (.slice (some ⟨g, 0, none⟩) (d1.C i0) cap) (d1.C i0) (d1.tx i0) (d1.hf i0) := by rw [← hg]; exact (unhide HA).row i0 hiR
      have HCl := hide (fun W9 (hW9 : Ext wa W9) => l2Clear_any (a := j0) (b := j0 + 2) W9 (d1.tx i0) (d1.hf i0) (Own2.ext hrow9 hW9) (by omega) hjC (by omega) (fun hh => (ok1.half i0 j0 hiR (by omega) hh).2.1))
      have HG := hide hg
      have HOK1 := hide ok1
      have HEi := hide ei0
      have HEj := hide ej0
      have wjw : IntKind.i64.wrap ((j0 : Int) + 2) = (j0 : Int) + 2 := by rw [IntKind.wrap_i64] <;> omega
      have b1 : (i0 : Int) < d1.rows := by omega
      have b2 : (i0 : Int) < (d1.R : Int) := by omega
      clear hg ok1 hgb9 hgA9 hrow9 ei0 ej0
      rw [unhide HWA] at a2 a3 a4 r1
      go_wp2_with fail
      rw [← unhide HWA] at a2 a3 a4 r1 ⊢
      refine ((unhide HCl) wa (Ext.refl _)).mono ?_
      rintro e wb ⟨rfl, ob, fb⟩
      have HB := hide ((unhide HA).clrAt i0 j0 (j0 + 2) g cap hiR (unhide HG) ob fb)
      have HFB := hide (Fr.tr (unhide HFA) (fb.mono (fun q hq => by subst hq; exact rowG (unhide HA) i0 hiR (unhide HG))))
      have HZB := hide (fb.kept (unhide HZA) (fun e => by have := ((unhide HA).kept _ (.inr rfl)).2 (.inr (.inl ⟨i0, hiR, by rw [unhide HG]; exact congrArg some e.symm⟩)); exact this))
      clear ob fb HCl HA HFA HZA a2 a3 a4 r1
      go_wp2_with fail
      have bj0 : (j0 : Int) < d1.cols := by omega
      have a4 : wb.cell? ⟨w.heap.size, 4, none⟩ = some (.int .i64 (j0 : Int)) := by rw [← unhide HEj]; exact cells_of (unhide HB).box 4 _ rfl
      first
        | (go_region_held3 (fun W => W.cell? ⟨w.heap.size, 4, none⟩ = some (.int .i64 (j0 : Int))) (first | exact a4 | exact e4 | exact p4) (first
            | (go_at_call 97
               refine ((unhide HU) _).mono ?_
               rintro e w2 ⟨rfl, E2⟩
               have E3 : Ext wb w2 := (Ext.refl wb).drew.trans E2
               have H2 := hide ((unhide HB).ext E3)
               have HF2 := hide (Fr.tr (unhide HFB) (Fr.of_ext E3))
               have HZ2 := hide (E3.kept (unhide HZB))
               obtain ⟨g', cap', e', b1, b2, b3, b4⟩ := (unhide H2).cellOf i0 j0 hiR (by show j0 < d1.C i0; omega)
               rw [unhide HG] at e'
               simp only [Value.slice.injEq, Option.some.injEq, Addr.mk.injEq, and_true] at e'
               rw [← e'.1] at b1 b2 b3 b4
               clear e' E2 E3
               have e4 : w2.cell? ⟨w.heap.size, 4, none⟩ = some (.int .i64 (j0 : Int)) := (by rw [← unhide HEj]; exact cells_of (unhide H2).box 4 _ rfl)
               have hset := (unhide H2).setT1 i0 j0 g cap hiR (by show j0 < d1.C i0; omega) (unhide HG) (toBA (encR r))
               have p4 : (w2.setCell ⟨g, j0 * 2, none⟩ (.string (toBA (encR r)))).cell? ⟨w.heap.size, 4, none⟩ = some (.int .i64 (j0 : Int)) := (by rw [← unhide HEj]; exact cells_of hset.1.box 4 _ rfl)
               have HP1 := hide hset
               clear hset))
           )
        | fail
      obtain ⟨W3, hW3⟩ : ∃ W3, W3 = w2.setCell ⟨g, j0 * 2, none⟩ (.string (toBA (encR r))) := ⟨_, rfl⟩
      rw [← hW3] at HP1 p4 ⊢
      have H3 := hide (unhide HP1).1
      have HF3 := hide (Fr.tr (unhide HF2) ((unhide HP1).2.mono (fun q hq => rowB (unhide H2) i0 hiR hq)))
      have HZ3 := hide ((unhide HP1).2.kept (unhide HZ2) (fun e => ((unhide H2).kept _ (.inr rfl)).2 (.inr (.inl ⟨i0, hiR, e⟩))))
      clear HP1 hW3 b1 b2 b3 b4 e4 H2 HF2 HZ2 HB HFB HZB a4 p4 HU
      have c4 : W3.cell? ⟨w.heap.size, 4, none⟩ = some (.int .i64 (j0 : Int)) := by rw [← unhide HEj]; exact cells_of (unhide H3).box 4 _ rfl
      have bj1 : (j0 : Int) + 1 < d1.cols := by omega
      have wj1 : IntKind.i64.wrap ((j0 : Int) + 1) = (j0 : Int) + 1 := by rw [IntKind.wrap_i64] <;> omega
      have hset := (unhide H3).setH1 i0 (j0 + 1) g cap hiR (by show j0 + 1 < d1.C i0; omega) (unhide HG)
      obtain ⟨g', cap', e', b1, b2, b3, b4⟩ := (unhide H3).cellOf i0 (j0 + 1) hiR (by show j0 + 1 < d1.C i0; omega)
      rw [unhide HG] at e'
      simp only [Value.slice.injEq, Option.some.injEq, Addr.mk.injEq, and_true] at e'
      rw [← e'.1] at b1 b2 b3 b4
      clear e'
      obtain ⟨W5, hW5⟩ : ∃ W5, W5 = W3.setCell ⟨g, (j0 + 1) * 2 + 1, none⟩ (.bool true) := ⟨_, rfl⟩
      rw [← hW5] at hset
      have H5 := hide hset.1
      have HF5 := hide (Fr.tr (unhide HF3) (hset.2.mono (fun q hq => rowB (unhide H3) i0 hiR hq)))
      have HZ5 := hide (hset.2.kept (unhide HZ3) (fun e => ((unhide H3).kept _ (.inr rfl)).2 (.inr (.inl ⟨i0, hiR, e⟩))))
      have HW5 := hide hW5
      clear hset hW5
      go_wp2_with (show wpList _ _ _ (List.cons ⟨some 73, _, _, _, _, _⟩ _) _ _; rw [← unhide HW5]; refine StopQ.intro ?_)
      show wpList _ _ _ _ _ _
      clear b1 b2 b3 b4 HW5 H3 HF3 HZ3 c4
      have wcm : IntKind.i64.wrap (d1.cols - 1) = d1.cols - 1 := by rw [IntKind.wrap_i64] <;> omega
      obtain ⟨d2, hd2⟩ : ∃ x, x = d1.put2 (toBA (encR r)) 2 := ⟨_, rfl⟩
      have HS2 : Hid (ScrW W5 w.heap.size base (fun q => X q ∨ q = w.heap.size + 1) d2 (.slice (some ⟨gb3, gk3, none⟩) d1.R gc3) rva (.slice hs ha hc) (.slice ba3 d1.nb bc3)) := hide (by
        have h9 := unhide H5
        rw [hd2]
        unfold SD.put2 SD.put1
        rw [if_pos rfl, unhide HEi, unhide HEj, Int.toNat_natCast, Int.toNat_natCast]
        exact h9)
      have hrest := put2_rest d1 (toBA (encR r)) 2
      rw [← hd2] at hrest
      have HRest := hide hrest
      have HD2 := hide hd2
      clear hrest hd2 H5
      have c0 : W5.cell? ⟨w.heap.size, 0, none⟩ = some (.int .i64 d1.cols) := by rw [← (unhide HRest).1]; exact cells_of (unhide HS2).box 0 _ rfl
      have c4 : W5.cell? ⟨w.heap.size, 4, none⟩ = some (.int .i64 (j0 : Int)) := by rw [← unhide HEj, ← (unhide HRest).2.1]; exact cells_of (unhide HS2).box 4 _ rfl
      have c5 := cells_of (unhide HS2).box 5 _ rfl
      have f4 : W5.frozen? ⟨w.heap.size, 4, none⟩ = false := Lib.frozen_of_heap (unhide HS2).box 4
      have f5 : W5.frozen? ⟨w.heap.size, 5, none⟩ = false := Lib.frozen_of_heap (unhide HS2).box 5
      by_cases hfull : d1.cols ≤ (j0 : Int) + 2
      · have HE3 : Hid (d.put rowT (toBA (encR r)) 2 = { d2 with col := d1.cols - 1, late := true }) := hide (by unfold SD.put; rw [← unhide HDE]; unfold SD.put3; rw [if_pos (by rw [unhide HEj]; exact hfull), ← unhide HD2])
        have fs : Fr (fun k => k = w.heap.size) W5 (((W5.setCell ⟨w.heap.size, 4, none⟩ (.int .i64 ((j0 : Int) + 2))).setCell ⟨w.heap.size, 4, none⟩ (.int .i64 (d1.cols - 1))).setCell ⟨w.heap.size, 5, none⟩ (.bool true)) := Fr.setCell (S := fun k => k = w.heap.size) (Fr.setCell (S := fun k => k = w.heap.size) (Fr.setCell (S := fun k => k = w.heap.size) (Fr.refl _ _) (a := ⟨w.heap.size, 4, none⟩) rfl _) (a := ⟨w.heap.size, 4, none⟩) rfl _) (a := ⟨w.heap.size, 5, none⟩) rfl _
        have hfin := (unhide HS2).head fs d2.row (d1.cols - 1) true (set_blk2 (set_blk2 (set_blk2 (unhide HS2).box rfl) rfl) rfl)
        obtain ⟨U, hU⟩ : ∃ U, U = ((W5.setCell ⟨w.heap.size, 4, none⟩ (.int .i64 ((j0 : Int) + 2))).setCell ⟨w.heap.size, 4, none⟩ (.int .i64 (d1.cols - 1))).setCell ⟨w.heap.size, 5, none⟩ (.bool true) := ⟨_, rfl⟩
        rw [← hU] at hfin fs
        have HUU := hide hU
        have HFin := hide hfin
        have HFs := hide fs
        have HSB := hide hfin.box
        have HSZ := hide (fs.kept (unhide HZ5) (by omega))
        clear fs hfin hU
        go_wp2_with (show wpList _ _ _ (List.cons ⟨some 88, _, _, _, _, _⟩ _) _ _; rw [← unhide HUU]; refine StopQ.intro ?_)
        show wpList _ _ _ _ _ _
        refine wpList_load_blk rfl 26 _ rfl w.heap.size rfl _ _ _ _ (unhide HSB) Tryz.underlying26 rfl infoScr8 ?_
        simp only [Act.put, List.setIfInBounds_toArray, List.set_cons_zero, List.set_cons_succ]
        refine wpList_store_blk rfl 26 _ _ rfl rfl (w.heap.size + 1) rfl _ _ _ rfl (unhide HSZ) infoScr8 rfl (by simp [Value.oneCell']) ?_
        intro X9 HX9 hX9
        have HXB := hide HX9
        have HXF := hide hX9
        clear HX9 hX9
        refine wpList_nil ?_
        rename_i hKK
        refine hKK _ _ ?_
        refine wp_ret ?_
        have v0 := cells_of (unhide HXB) 0 _ rfl
        have v1 := cells_of (unhide HXB) 1 _ rfl
        have v2 := cells_of (unhide HXB) 2 _ rfl
        have v3 := cells_of (unhide HXB) 3 _ rfl
        have v4 := cells_of (unhide HXB) 4 _ rfl
        have v5 := cells_of (unhide HXB) 5 _ rfl
        have v6 := cells_of (unhide HXB) 6 _ rfl
        have v7 := cells_of (unhide HXB) 7 _ rfl
        have hV9 := (unhide HFin).toV.fr (unhide HXF) (fun g9 hg9 e9 => ((unhide HFin).kept g9 (.inr e9)).2 hg9)
        have hF9 : FrV base X w X9 := Fr.tr (Fr.tr (unhide HF5) ((unhide HFs).mono (fun q hq => ⟨by have := (unhide H).top; omega, fun hx => by have := ((unhide H).kept q hx).1; omega⟩))) ((unhide HXF).mono (fun q hq => ⟨by have := (unhide H).top; omega, fun hx => by have := ((unhide H).kept q hx).1; omega⟩))
        refine bodyPost_ret (v := scrV (d.put rowT (toBA (encR r)) 2) (.slice (some ⟨gb3, gk3, none⟩) d1.R gc3) (.slice hs ha hc) (.slice ba3 d1.nb bc3)) (by rw [unhide HE3]; unfold scrV; simp [results, Tryz.results43, go_sem, v0, v1, v2, v3, v4, v5, v6, v7]) rfl ⟨_, rva, _, rfl, by rw [unhide HE3]; exact hV9.keep (fun q hq => .inl hq), hF9⟩
      · have HE3 : Hid (d.put rowT (toBA (encR r)) 2 = { d2 with col := (j0 : Int) + 2 }) := hide (by unfold SD.put; rw [← unhide HDE]; unfold SD.put3; rw [if_neg (by rw [unhide HEj]; exact hfull), ← unhide HD2, unhide HEj])
        have fs : Fr (fun k => k = w.heap.size) W5 (W5.setCell ⟨w.heap.size, 4, none⟩ (.int .i64 ((j0 : Int) + 2))) := Fr.setCell (S := fun k => k = w.heap.size) (Fr.refl _ _) (a := ⟨w.heap.size, 4, none⟩) rfl _
        have hfin := (unhide HS2).head fs d2.row ((j0 : Int) + 2) d2.late (set_blk2 (unhide HS2).box rfl)
        obtain ⟨U, hU⟩ : ∃ U, U = W5.setCell ⟨w.heap.size, 4, none⟩ (.int .i64 ((j0 : Int) + 2)) := ⟨_, rfl⟩
        rw [← hU] at hfin fs
        have HUU := hide hU
        have HFin := hide hfin
        have HFs := hide fs
        have HSB := hide hfin.box
        have HSZ := hide (fs.kept (unhide HZ5) (by omega))
        clear fs hfin hU
        go_wp2_with (show wpList _ _ _ (List.cons ⟨some 88, _, _, _, _, _⟩ _) _ _; rw [← unhide HUU]; refine StopQ.intro ?_)
        show wpList _ _ _ _ _ _
        refine wpList_load_blk rfl 26 _ rfl w.heap.size rfl _ _ _ _ (unhide HSB) Tryz.underlying26 rfl infoScr8 ?_
        simp only [Act.put, List.setIfInBounds_toArray, List.set_cons_zero, List.set_cons_succ]
        refine wpList_store_blk rfl 26 _ _ rfl rfl (w.heap.size + 1) rfl _ _ _ rfl (unhide HSZ) infoScr8 rfl (by simp [Value.oneCell']) ?_
        intro X9 HX9 hX9
        have HXB := hide HX9
        have HXF := hide hX9
        clear HX9 hX9
        refine wpList_nil ?_
        rename_i hKK
        refine hKK _ _ ?_
        refine wp_ret ?_
        have v0 := cells_of (unhide HXB) 0 _ rfl
        have v1 := cells_of (unhide HXB) 1 _ rfl
        have v2 := cells_of (unhide HXB) 2 _ rfl
        have v3 := cells_of (unhide HXB) 3 _ rfl
        have v4 := cells_of (unhide HXB) 4 _ rfl
        have v5 := cells_of (unhide HXB) 5 _ rfl
        have v6 := cells_of (unhide HXB) 6 _ rfl
        have v7 := cells_of (unhide HXB) 7 _ rfl
        have hV9 := (unhide HFin).toV.fr (unhide HXF) (fun g9 hg9 e9 => ((unhide HFin).kept g9 (.inr e9)).2 hg9)
        have hF9 : FrV base X w X9 := Fr.tr (Fr.tr (unhide HF5) ((unhide HFs).mono (fun q hq => ⟨by have := (unhide H).top; omega, fun hx => by have := ((unhide H).kept q hx).1; omega⟩))) ((unhide HXF).mono (fun q hq => ⟨by have := (unhide H).top; omega, fun hx => by have := ((unhide H).kept q hx).1; omega⟩))
        refine bodyPost_ret (v := scrV (d.put rowT (toBA (encR r)) 2) (.slice (some ⟨gb3, gk3, none⟩) d1.R gc3) (.slice hs ha hc) (.slice ba3 d1.nb bc3)) (by rw [unhide HE3]; unfold scrV; simp [results, Tryz.results43, go_sem, v0, v1, v2, v3, v4, v5, v6, v7]) rfl ⟨_, rva, _, rfl, by rw [unhide HE3]; exact hV9.keep (fun q hq => .inl hq), hF9⟩
    | false =>
      rw [hl] at c5 HDn
      by_cases hcc : d.col = d.cols - 1
      · have hcb : (d.col == d.cols - 1) = true := by simp [hcc]
        have HCC := hide hcc
        clear hcc
        go_wp2_with fail
        refine (unhide HDn).mono ?_
        rintro e w3 ⟨gv3, rv3, bv3, rfl, hV3, f3⟩
        obtain ⟨gb3, gk3, gc3, _, hgv3, _⟩ := id hV3.grid
        obtain ⟨ba3, bc3, hbv3⟩ : ∃ a c, bv3 = .slice a (d.down rowT).nb c := by obtain ⟨_, h9, _⟩ := hV3.back; exact owns_ln h9
        subst hgv3
        subst hbv3
        have HSB3 := hide (f3.kept (unhide HSB) (fun x => x.2 (.inr (.inl rfl))))
        have HSZ3 := hide (f3.kept (unhide HSZ) (fun x => x.2 (.inr (.inr rfl))))
        have HV3 := hide hV3
        have HF3 := hide f3
        unfold scrV
        clear hV3 f3 HDn c0 c1 c2 c3 c4 c5 c6 c7
        go_wp2_with (refine wpList_store_blk rfl 26 _ _ rfl rfl w.heap.size rfl _ _ _ rfl (unhide HSB3) infoScr8 rfl (by simp [Value.oneCell']) ?_; intro Y HY9 hY9; have k4 := cells_of HY9 4 _ rfl; have k4f : Y.frozen? ⟨w.heap.size, 4, none⟩ = false := Lib.frozen_of_heap HY9 4; have HYB := hide HY9; have HYF := hide hY9; clear HY9 hY9; refine StopQ.intro ?_)
        show wpList _ _ _ _ _ _
        obtain ⟨wa, hwa⟩ : ∃ wa, wa = Y.setCell ⟨w.heap.size, 4, none⟩ (.int .i64 0) := ⟨_, rfl⟩
        have fa : Fr (fun k => k = w.heap.size) Y wa := by rw [hwa]; exact Fr.setCell (S := fun k => k = w.heap.size) (Fr.refl _ _) (a := ⟨w.heap.size, 4, none⟩) rfl _
        have hWY : ScrW Y w.heap.size base (fun q => X q ∨ q = w.heap.size + 1) (d.down rowT) (.slice (some ⟨gb3, gk3, none⟩) (d.down rowT).R gc3) rv3 (.slice hs ha hc) (.slice ba3 (d.down rowT).nb bc3) := (((unhide HV3).fr (unhide HYF) (fun g9 hg9 e9 => ((unhide HV3).kept g9 (.inr (.inl e9))).2 hg9)).keep (fun q hq => hq.imp id .inr)).toW (unhide HYB) ((unhide HV3).kept _ (.inr (.inl rfl))).2
        have HA : Hid (ScrW wa w.heap.size base (fun q => X q ∨ q = w.heap.size + 1) d1 (.slice (some ⟨gb3, gk3, none⟩) (d.down rowT).R gc3) rv3 (.slice hs ha hc) (.slice ba3 (d.down rowT).nb bc3)) := hide (by
          have h9 := hWY.head fa (d.down rowT).row 0 (d.down rowT).late (by rw [hwa]; exact set_blk2 hWY.box rfl)
          have e9 : d1 = { d.down rowT with col := 0 } := by rw [unhide HDE]; unfold SD.wrapL; rw [if_pos (.inr ⟨rfl, unhide HCC⟩)]
          rw [e9]
          exact h9)
        have HFA : Hid (FrV base X w wa) := hide (Fr.tr (Fr.tr (Fr.tr (Fr.of_ext (unhide HE1)) ((unhide HF3).mono (fun q hq => ⟨hq.1, fun hx => hq.2 (.inl hx)⟩))) ((unhide HYF).mono (fun q hq => ⟨by have := (unhide H).top; omega, fun hx => by have := ((unhide H).kept q hx).1; omega⟩))) (fa.mono (fun q hq => ⟨by have := (unhide H).top; omega, fun hx => by have := ((unhide H).kept q hx).1; omega⟩)))
        have HZA : Hid (wa.heap[w.heap.size + 1]? = some (.cells #[.int .i64 0, .int .i64 0, .slice none 0 0, .int .i64 0, .int .i64 0, .bool false, .slice none 0 0, .slice none 0 0] 26 (0, 0))) := hide (fa.kept ((unhide HYF).kept (unhide HSZ3) (by omega)) (by omega))
        have HWA := hide hwa
        have eR : (d.down rowT).R = d1.R := by rw [unhide HDE]; unfold SD.wrapL; rw [if_pos (.inr ⟨rfl, unhide HCC⟩)]
        have eN : (d.down rowT).nb = d1.nb := by rw [unhide HDE]; unfold SD.wrapL; rw [if_pos (.inr ⟨rfl, unhide HCC⟩)]
        rw [eR, eN] at HA
        clear fa hWY hwa HV3 HF3 HYF HYB HSB3 HSZ3 eR eN
        generalize rv3 = rva at *
        have ok1 := (unhide HD1).1
        have hs1 := size_bd ok1
        have hrow1 := ok1.row
        have hcol1 := ok1.col
        have hle1 := (unhide HD1).2
        obtain ⟨i0, ei0⟩ : ∃ i0 : Nat, d1.row = i0 := ⟨d1.row.toNat, by omega⟩
        obtain ⟨j0, ej0⟩ : ∃ j0 : Nat, d1.col = j0 := ⟨d1.col.toNat, by omega⟩
        have hR1 := ok1.R
        have hiR : i0 < d1.R := by omega
        have hCi := ok1.C i0 hiR
        have hjC : j0 + 2 ≤ d1.C i0 := by omega
        obtain ⟨g, cap, hg⟩ : ∃ g cap, rva i0 = .slice (some ⟨g, 0, none⟩) (d1.C i0) cap := by
          rcases ((unhide HA).row i0 hiR).form with ⟨_, e⟩ | ⟨g, cap, e⟩
          · omega
          · exact ⟨g, cap, e⟩
        obtain ⟨cur9, hgb9, hgA9⟩ : ∃ cur, wa.heap[gb3]? = some (.cells cur 81 (0, 0)) ∧ ∀ j, j < d1.R → cur[gk3 + j]? = some (rva j) := by
          obtain ⟨g', k', c', cur, e, _, hgb, _, _, _, hgA⟩ := id (unhide HA).grid
          simp only [Value.slice.injEq, Option.some.injEq, Addr.mk.injEq, and_true, true_and] at e
          obtain ⟨⟨rfl, rfl⟩, rfl⟩ := e
          exact ⟨cur, hgb, hgA⟩
        have r1 : wa.cell? ⟨gb3, gk3 + i0, none⟩ = some (.slice (some ⟨g, 0, none⟩) (d1.C i0) cap) := by rw [← hg]; exact cells_of hgb9 (gk3 + i0) _ (hgA9 i0 hiR)
        have a2 := cells_of (unhide HA).box 2 _ rfl
        have a3 : wa.cell? ⟨w.heap.size, 3, none⟩ = some (.int .i64 (i0 : Int)) := by rw [← ei0]; exact cells_of (unhide HA).box 3 _ rfl
        have a4 : wa.cell? ⟨w.heap.size, 4, none⟩ = some (.int .i64 (j0 : Int)) := by rw [← ej0]; exact cells_of (unhide HA).box 4 _ rfl
        have hrow9 : OwnC wa base (.slice (some ⟨g, 0, none⟩) (d1.C i0) cap) (d1.C i0) (d1.tx i0) (d1.hf i0) := by rw [← hg]; exact (unhide HA).row i0 hiR
        have HCl := hide (fun W9 (hW9 : Ext wa W9) => l2Clear_any (a := j0) (b := j0 + 2) W9 (d1.tx i0) (d1.hf i0) (Own2.ext hrow9 hW9) (by omega) hjC (by omega) (fun hh => (ok1.half i0 j0 hiR (by omega) hh).2.1))
        have HG := hide hg
        have HOK1 := hide ok1
        have HEi := hide ei0
        have HEj := hide ej0
        have wjw : IntKind.i64.wrap ((j0 : Int) + 2) = (j0 : Int) + 2 := by rw [IntKind.wrap_i64] <;> omega
        have b1 : (i0 : Int) < d1.rows := by omega
        have b2 : (i0 : Int) < (d1.R : Int) := by omega
        clear hg ok1 hgb9 hgA9 hrow9 ei0 ej0
        rw [unhide HWA] at a2 a3 a4 r1
        go_wp2_with fail
        rw [← unhide HWA] at a2 a3 a4 r1 ⊢
        refine ((unhide HCl) wa (Ext.refl _)).mono ?_
        rintro e wb ⟨rfl, ob, fb⟩
        have HB := hide ((unhide HA).clrAt i0 j0 (j0 + 2) g cap hiR (unhide HG) ob fb)
        have HFB := hide (Fr.tr (unhide HFA) (fb.mono (fun q hq => by subst hq; exact rowG (unhide HA) i0 hiR (unhide HG))))
        have HZB := hide (fb.kept (unhide HZA) (fun e => by have := ((unhide HA).kept _ (.inr rfl)).2 (.inr (.inl ⟨i0, hiR, by rw [unhide HG]; exact congrArg some e.symm⟩)); exact this))
        clear ob fb HCl HA HFA HZA a2 a3 a4 r1
        go_wp2_with fail
        have bj0 : (j0 : Int) < d1.cols := by omega
        have a4 : wb.cell? ⟨w.heap.size, 4, none⟩ = some (.int .i64 (j0 : Int)) := by rw [← unhide HEj]; exact cells_of (unhide HB).box 4 _ rfl
        first
          | (go_region_held3 (fun W => W.cell? ⟨w.heap.size, 4, none⟩ = some (.int .i64 (j0 : Int))) (first | exact a4 | exact e4 | exact p4) (first
              | (go_at_call 97
                 refine ((unhide HU) _).mono ?_
                 rintro e w2 ⟨rfl, E2⟩
                 have E3 : Ext wb w2 := (Ext.refl wb).drew.trans E2
                 have H2 := hide ((unhide HB).ext E3)
                 have HF2 := hide (Fr.tr (unhide HFB) (Fr.of_ext E3))
                 have HZ2 := hide (E3.kept (unhide HZB))
                 obtain ⟨g', cap', e', b1, b2, b3, b4⟩ := (unhide H2).cellOf i0 j0 hiR (by show j0 < d1.C i0; omega)
                 rw [unhide HG] at e'
                 simp only [Value.slice.injEq, Option.some.injEq, Addr.mk.injEq, and_true] at e'
                 rw [← e'.1] at b1 b2 b3 b4
                 clear e' E2 E3
                 have e4 : w2.cell? ⟨w.heap.size, 4, none⟩ = some (.int .i64 (j0 : Int)) := (by rw [← unhide HEj]; exact cells_of (unhide H2).box 4 _ rfl)
                 have hset := (unhide H2).setT1 i0 j0 g cap hiR (by show j0 < d1.C i0; omega) (unhide HG) (toBA (encR r))
                 have p4 : (w2.setCell ⟨g, j0 * 2, none⟩ (.string (toBA (encR r)))).cell? ⟨w.heap.size, 4, none⟩ = some (.int .i64 (j0 : Int)) := (by rw [← unhide HEj]; exact cells_of hset.1.box 4 _ rfl)
                 have HP1 := hide hset
                 clear hset))
             )
          | fail
        obtain ⟨W3, hW3⟩ : ∃ W3, W3 = w2.setCell ⟨g, j0 * 2, none⟩ (.string (toBA (encR r))) := ⟨_, rfl⟩
        rw [← hW3] at HP1 p4 ⊢
        have H3 := hide (unhide HP1).1
        have HF3 := hide (Fr.tr (unhide HF2) ((unhide HP1).2.mono (fun q hq => rowB (unhide H2) i0 hiR hq)))
        have HZ3 := hide ((unhide HP1).2.kept (unhide HZ2) (fun e => ((unhide H2).kept _ (.inr rfl)).2 (.inr (.inl ⟨i0, hiR, e⟩))))
        clear HP1 hW3 b1 b2 b3 b4 e4 H2 HF2 HZ2 HB HFB HZB a4 p4 HU
        have c4 : W3.cell? ⟨w.heap.size, 4, none⟩ = some (.int .i64 (j0 : Int)) := by rw [← unhide HEj]; exact cells_of (unhide H3).box 4 _ rfl
        have bj1 : (j0 : Int) + 1 < d1.cols := by omega
        have wj1 : IntKind.i64.wrap ((j0 : Int) + 1) = (j0 : Int) + 1 := by rw [IntKind.wrap_i64] <;> omega
        have hset := (unhide H3).setH1 i0 (j0 + 1) g cap hiR (by show j0 + 1 < d1.C i0; omega) (unhide HG)
        obtain ⟨g', cap', e', b1, b2, b3, b4⟩ := (unhide H3).cellOf i0 (j0 + 1) hiR (by show j0 + 1 < d1.C i0; omega)
        rw [unhide HG] at e'
        simp only [Value.slice.injEq, Option.some.injEq, Addr.mk.injEq, and_true] at e'
        rw [← e'.1] at b1 b2 b3 b4
        clear e'
        obtain ⟨W5, hW5⟩ : ∃ W5, W5 = W3.setCell ⟨g, (j0 + 1) * 2 + 1, none⟩ (.bool true) := ⟨_, rfl⟩
        rw [← hW5] at hset
        have H5 := hide hset.1
        have HF5 := hide (Fr.tr (unhide HF3) (hset.2.mono (fun q hq => rowB (unhide H3) i0 hiR hq)))
        have HZ5 := hide (hset.2.kept (unhide HZ3) (fun e => ((unhide H3).kept _ (.inr rfl)).2 (.inr (.inl ⟨i0, hiR, e⟩))))
        have HW5 := hide hW5
        clear hset hW5
        go_wp2_with (show wpList _ _ _ (List.cons ⟨some 73, _, _, _, _, _⟩ _) _ _; rw [← unhide HW5]; refine StopQ.intro ?_)
        show wpList _ _ _ _ _ _
        clear b1 b2 b3 b4 HW5 H3 HF3 HZ3 c4
        have wcm : IntKind.i64.wrap (d1.cols - 1) = d1.cols - 1 := by rw [IntKind.wrap_i64] <;> omega
        obtain ⟨d2, hd2⟩ : ∃ x, x = d1.put2 (toBA (encR r)) 2 := ⟨_, rfl⟩
        have HS2 : Hid (ScrW W5 w.heap.size base (fun q => X q ∨ q = w.heap.size + 1) d2 (.slice (some ⟨gb3, gk3, none⟩) d1.R gc3) rva (.slice hs ha hc) (.slice ba3 d1.nb bc3)) := hide (by
          have h9 := unhide H5
          rw [hd2]
          unfold SD.put2 SD.put1
          rw [if_pos rfl, unhide HEi, unhide HEj, Int.toNat_natCast, Int.toNat_natCast]
          exact h9)
        have hrest := put2_rest d1 (toBA (encR r)) 2
        rw [← hd2] at hrest
        have HRest := hide hrest
        have HD2 := hide hd2
        clear hrest hd2 H5
        have c0 : W5.cell? ⟨w.heap.size, 0, none⟩ = some (.int .i64 d1.cols) := by rw [← (unhide HRest).1]; exact cells_of (unhide HS2).box 0 _ rfl
        have c4 : W5.cell? ⟨w.heap.size, 4, none⟩ = some (.int .i64 (j0 : Int)) := by rw [← unhide HEj, ← (unhide HRest).2.1]; exact cells_of (unhide HS2).box 4 _ rfl
        have c5 := cells_of (unhide HS2).box 5 _ rfl
        have f4 : W5.frozen? ⟨w.heap.size, 4, none⟩ = false := Lib.frozen_of_heap (unhide HS2).box 4
        have f5 : W5.frozen? ⟨w.heap.size, 5, none⟩ = false := Lib.frozen_of_heap (unhide HS2).box 5
        by_cases hfull : d1.cols ≤ (j0 : Int) + 2
        · have HE3 : Hid (d.put rowT (toBA (encR r)) 2 = { d2 with col := d1.cols - 1, late := true }) := hide (by unfold SD.put; rw [← unhide HDE]; unfold SD.put3; rw [if_pos (by rw [unhide HEj]; exact hfull), ← unhide HD2])
          have fs : Fr (fun k => k = w.heap.size) W5 (((W5.setCell ⟨w.heap.size, 4, none⟩ (.int .i64 ((j0 : Int) + 2))).setCell ⟨w.heap.size, 4, none⟩ (.int .i64 (d1.cols - 1))).setCell ⟨w.heap.size, 5, none⟩ (.bool true)) := Fr.setCell (S := fun k => k = w.heap.size) (Fr.setCell (S := fun k => k = w.heap.size) (Fr.setCell (S := fun k => k = w.heap.size) (Fr.refl _ _) (a := ⟨w.heap.size, 4, none⟩) rfl _) (a := ⟨w.heap.size, 4, none⟩) rfl _) (a := ⟨w.heap.size, 5, none⟩) rfl _
          have hfin := (unhide HS2).head fs d2.row (d1.cols - 1) true (set_blk2 (set_blk2 (set_blk2 (unhide HS2).box rfl) rfl) rfl)
          obtain ⟨U, hU⟩ : ∃ U, U = ((W5.setCell ⟨w.heap.size, 4, none⟩ (.int .i64 ((j0 : Int) + 2))).setCell ⟨w.heap.size, 4, none⟩ (.int .i64 (d1.cols - 1))).setCell ⟨w.heap.size, 5, none⟩ (.bool true) := ⟨_, rfl⟩
          rw [← hU] at hfin fs
          have HUU := hide hU
          have HFin := hide hfin
          have HFs := hide fs
          have HSB := hide hfin.box
          have HSZ := hide (fs.kept (unhide HZ5) (by omega))
          clear fs hfin hU
          go_wp2_with (show wpList _ _ _ (List.cons ⟨some 88, _, _, _, _, _⟩ _) _ _; rw [← unhide HUU]; refine StopQ.intro ?_)
          show wpList _ _ _ _ _ _
          refine wpList_load_blk rfl 26 _ rfl w.heap.size rfl _ _ _ _ (unhide HSB) Tryz.underlying26 rfl infoScr8 ?_
          simp only [Act.put, List.setIfInBounds_toArray, List.set_cons_zero, List.set_cons_succ]
          refine wpList_store_blk rfl 26 _ _ rfl rfl (w.heap.size + 1) rfl _ _ _ rfl (unhide HSZ) infoScr8 rfl (by simp [Value.oneCell']) ?_
          intro X9 HX9 hX9
          have HXB := hide HX9
          have HXF := hide hX9
          clear HX9 hX9
          refine wpList_nil ?_
          rename_i hKK
          refine hKK _ _ ?_
          refine wp_ret ?_
          have v0 := cells_of (unhide HXB) 0 _ rfl
          have v1 := cells_of (unhide HXB) 1 _ rfl
          have v2 := cells_of (unhide HXB) 2 _ rfl
          have v3 := cells_of (unhide HXB) 3 _ rfl
          have v4 := cells_of (unhide HXB) 4 _ rfl
          have v5 := cells_of (unhide HXB) 5 _ rfl
          have v6 := cells_of (unhide HXB) 6 _ rfl
          have v7 := cells_of (unhide HXB) 7 _ rfl
          have hV9 := (unhide HFin).toV.fr (unhide HXF) (fun g9 hg9 e9 => ((unhide HFin).kept g9 (.inr e9)).2 hg9)
          have hF9 : FrV base X w X9 := Fr.tr (Fr.tr (unhide HF5) ((unhide HFs).mono (fun q hq => ⟨by have := (unhide H).top; omega, fun hx => by have := ((unhide H).kept q hx).1; omega⟩))) ((unhide HXF).mono (fun q hq => ⟨by have := (unhide H).top; omega, fun hx => by have := ((unhide H).kept q hx).1; omega⟩))
          refine bodyPost_ret (v := scrV (d.put rowT (toBA (encR r)) 2) (.slice (some ⟨gb3, gk3, none⟩) d1.R gc3) (.slice hs ha hc) (.slice ba3 d1.nb bc3)) (by rw [unhide HE3]; unfold scrV; simp [results, Tryz.results43, go_sem, v0, v1, v2, v3, v4, v5, v6, v7]) rfl ⟨_, rva, _, rfl, by rw [unhide HE3]; exact hV9.keep (fun q hq => .inl hq), hF9⟩
        · have HE3 : Hid (d.put rowT (toBA (encR r)) 2 = { d2 with col := (j0 : Int) + 2 }) := hide (by unfold SD.put; rw [← unhide HDE]; unfold SD.put3; rw [if_neg (by rw [unhide HEj]; exact hfull), ← unhide HD2, unhide HEj])
          have fs : Fr (fun k => k = w.heap.size) W5 (W5.setCell ⟨w.heap.size, 4, none⟩ (.int .i64 ((j0 : Int) + 2))) := Fr.setCell (S := fun k => k = w.heap.size) (Fr.refl _ _) (a := ⟨w.heap.size, 4, none⟩) rfl _
          have hfin := (unhide HS2).head fs d2.row ((j0 : Int) + 2) d2.late (set_blk2 (unhide HS2).box rfl)
          obtain ⟨U, hU⟩ : ∃ U, U = W5.setCell ⟨w.heap.size, 4, none⟩ (.int .i64 ((j0 : Int) + 2)) := ⟨_, rfl⟩
          rw [← hU] at hfin fs
          have HUU := hide hU
          have HFin := hide hfin
          have HFs := hide fs
          have HSB := hide hfin.box
          have HSZ := hide (fs.kept (unhide HZ5) (by omega))
          clear fs hfin hU
          go_wp2_with (show wpList _ _ _ (List.cons ⟨some 88, _, _, _, _, _⟩ _) _ _; rw [← unhide HUU]; refine StopQ.intro ?_)
          show wpList _ _ _ _ _ _
          refine wpList_load_blk rfl 26 _ rfl w.heap.size rfl _ _ _ _ (unhide HSB) Tryz.underlying26 rfl infoScr8 ?_
          simp only [Act.put, List.setIfInBounds_toArray, List.set_cons_zero, List.set_cons_succ]
          refine wpList_store_blk rfl 26 _ _ rfl rfl (w.heap.size + 1) rfl _ _ _ rfl (unhide HSZ) infoScr8 rfl (by simp [Value.oneCell']) ?_
          intro X9 HX9 hX9
          have HXB := hide HX9
          have HXF := hide hX9
          clear HX9 hX9
          refine wpList_nil ?_
          rename_i hKK
          refine hKK _ _ ?_
          refine wp_ret ?_
          have v0 := cells_of (unhide HXB) 0 _ rfl
          have v1 := cells_of (unhide HXB) 1 _ rfl
          have v2 := cells_of (unhide HXB) 2 _ rfl
          have v3 := cells_of (unhide HXB) 3 _ rfl
          have v4 := cells_of (unhide HXB) 4 _ rfl
          have v5 := cells_of (unhide HXB) 5 _ rfl
          have v6 := cells_of (unhide HXB) 6 _ rfl
          have v7 := cells_of (unhide HXB) 7 _ rfl
          have hV9 := (unhide HFin).toV.fr (unhide HXF) (fun g9 hg9 e9 => ((unhide HFin).kept g9 (.inr e9)).2 hg9)
          have hF9 : FrV base X w X9 := Fr.tr (Fr.tr (unhide HF5) ((unhide HFs).mono (fun q hq => ⟨by have := (unhide H).top; omega, fun hx => by have := ((unhide H).kept q hx).1; omega⟩))) ((unhide HXF).mono (fun q hq => ⟨by have := (unhide H).top; omega, fun hx => by have := ((unhide H).kept q hx).1; omega⟩))
          refine bodyPost_ret (v := scrV (d.put rowT (toBA (encR r)) 2) (.slice (some ⟨gb3, gk3, none⟩) d1.R gc3) (.slice hs ha hc) (.slice ba3 d1.nb bc3)) (by rw [unhide HE3]; unfold scrV; simp [results, Tryz.results43, go_sem, v0, v1, v2, v3, v4, v5, v6, v7]) rfl ⟨_, rva, _, rfl, by rw [unhide HE3]; exact hV9.keep (fun q hq => .inl hq), hF9⟩
      · have e9 : d1 = d := by rw [unhide HDE]; unfold SD.wrapL; rw [if_neg (by rw [hl]; simp; omega)]
        have HA : Hid (ScrW w1 w.heap.size base (fun q => X q ∨ q = w.heap.size + 1) d1 (.slice (some ⟨gb, gk, none⟩) d1.R gc) rv (.slice hs ha hc) (.slice ba d1.nb bc)) := hide (by
          rw [e9]
          exact (((unhide H).ext (unhide HE1)).keepZ (Y := (fun q => X q ∨ q = w.heap.size + 1)) (unhide H) (unhide HSB) (unhide HSZ) (fun q hq => hq.imp id .inr)).toW (unhide HSB) (fun hw9 => by have := ((unhide H).foot hw9).2; omega))
        have HFA : Hid (FrV base X w w1) := hide (Fr.of_ext (unhide HE1))
        have HZA := HSZ
        rw [← e9] at c0
        clear c1 c2 c3 c4 c6 c7 HDn HSB HSZ
        have ok1 := (unhide HD1).1
        have hs1 := size_bd ok1
        have hrow1 := ok1.row
        have hcol1 := ok1.col
        have hle1 := (unhide HD1).2
        obtain ⟨i0, ei0⟩ : ∃ i0 : Nat, d1.row = i0 := ⟨d1.row.toNat, by omega⟩
        obtain ⟨j0, ej0⟩ : ∃ j0 : Nat, d1.col = j0 := ⟨d1.col.toNat, by omega⟩
        have hR1 := ok1.R
        have hiR : i0 < d1.R := by omega
        have hCi := ok1.C i0 hiR
        have hjC : j0 + 2 ≤ d1.C i0 := by omega
        obtain ⟨g, cap, hg⟩ : ∃ g cap, rv i0 = .slice (some ⟨g, 0, none⟩) (d1.C i0) cap := by
          rcases ((unhide HA).row i0 hiR).form with ⟨_, e⟩ | ⟨g, cap, e⟩
          · omega
          · exact ⟨g, cap, e⟩
        obtain ⟨cur9, hgb9, hgA9⟩ : ∃ cur, w1.heap[gb]? = some (.cells cur 81 (0, 0)) ∧ ∀ j, j < d1.R → cur[gk + j]? = some (rv j) := by
          obtain ⟨g', k', c', cur, e, _, hgb, _, _, _, hgA⟩ := id (unhide HA).grid
          simp only [Value.slice.injEq, Option.some.injEq, Addr.mk.injEq, and_true, true_and] at e
          obtain ⟨⟨rfl, rfl⟩, rfl⟩ := e
          exact ⟨cur, hgb, hgA⟩
        have r1 : w1.cell? ⟨gb, gk + i0, none⟩ = some (.slice (some ⟨g, 0, none⟩) (d1.C i0) cap) := by rw [← hg]; exact cells_of hgb9 (gk + i0) _ (hgA9 i0 hiR)
        have a2 := cells_of (unhide HA).box 2 _ rfl
        have a3 : w1.cell? ⟨w.heap.size, 3, none⟩ = some (.int .i64 (i0 : Int)) := by rw [← ei0]; exact cells_of (unhide HA).box 3 _ rfl
        have a4 : w1.cell? ⟨w.heap.size, 4, none⟩ = some (.int .i64 (j0 : Int)) := by rw [← ej0]; exact cells_of (unhide HA).box 4 _ rfl
        have hrow9 : OwnC w1 base (.slice (some ⟨g, 0, none⟩) (d1.C i0) cap) (d1.C i0) (d1.tx i0) (d1.hf i0) := by rw [← hg]; exact (unhide HA).row i0 hiR
        have HCl := hide (fun W9 (hW9 : Ext w1 W9) => l2Clear_any (a := j0) (b := j0 + 2) W9 (d1.tx i0) (d1.hf i0) (Own2.ext hrow9 hW9) (by omega) hjC (by omega) (fun hh => (ok1.half i0 j0 hiR (by omega) hh).2.1))
        have HG := hide hg
        have HOK1 := hide ok1
        have HEi := hide ei0
        have HEj := hide ej0
        have wjw : IntKind.i64.wrap ((j0 : Int) + 2) = (j0 : Int) + 2 := by rw [IntKind.wrap_i64] <;> omega
        have b1 : (i0 : Int) < d1.rows := by omega
        have b2 : (i0 : Int) < (d1.R : Int) := by omega
        clear hg ok1 hgb9 hgA9 hrow9 ei0 ej0
        have wc1 : IntKind.i64.wrap (d1.cols - 1) = d1.cols - 1 := by rw [IntKind.wrap_i64] <;> omega
        have hcj : ¬ (j0 : Int) = d1.cols - 1 := by omega
        have hcb : ((j0 : Int) == d1.cols - 1) = false := by simp [hcj]
        clear e9
        go_wp2_with fail
        refine ((unhide HCl) w1 (Ext.refl _)).mono ?_
        rintro e wb ⟨rfl, ob, fb⟩
        have HB := hide ((unhide HA).clrAt i0 j0 (j0 + 2) g cap hiR (unhide HG) ob fb)
        have HFB := hide (Fr.tr (unhide HFA) (fb.mono (fun q hq => by subst hq; exact rowG (unhide HA) i0 hiR (unhide HG))))
        have HZB := hide (fb.kept (unhide HZA) (fun e => by have := ((unhide HA).kept _ (.inr rfl)).2 (.inr (.inl ⟨i0, hiR, by rw [unhide HG]; exact congrArg some e.symm⟩)); exact this))
        clear ob fb HCl HA HFA HZA a2 a3 a4 r1
        go_wp2_with fail
        have bj0 : (j0 : Int) < d1.cols := by omega
        have a4 : wb.cell? ⟨w.heap.size, 4, none⟩ = some (.int .i64 (j0 : Int)) := by rw [← unhide HEj]; exact cells_of (unhide HB).box 4 _ rfl
        first
          | (go_region_held3 (fun W => W.cell? ⟨w.heap.size, 4, none⟩ = some (.int .i64 (j0 : Int))) (first | exact a4 | exact e4 | exact p4) (first
              | (go_at_call 97
                 refine ((unhide HU) _).mono ?_
                 rintro e w2 ⟨rfl, E2⟩
                 have E3 : Ext wb w2 := (Ext.refl wb).drew.trans E2
                 have H2 := hide ((unhide HB).ext E3)
                 have HF2 := hide (Fr.tr (unhide HFB) (Fr.of_ext E3))
                 have HZ2 := hide (E3.kept (unhide HZB))
                 obtain ⟨g', cap', e', b1, b2, b3, b4⟩ := (unhide H2).cellOf i0 j0 hiR (by show j0 < d1.C i0; omega)
                 rw [unhide HG] at e'
                 simp only [Value.slice.injEq, Option.some.injEq, Addr.mk.injEq, and_true] at e'
                 rw [← e'.1] at b1 b2 b3 b4
                 clear e' E2 E3
                 have e4 : w2.cell? ⟨w.heap.size, 4, none⟩ = some (.int .i64 (j0 : Int)) := (by rw [← unhide HEj]; exact cells_of (unhide H2).box 4 _ rfl)
                 have hset := (unhide H2).setT1 i0 j0 g cap hiR (by show j0 < d1.C i0; omega) (unhide HG) (toBA (encR r))
                 have p4 : (w2.setCell ⟨g, j0 * 2, none⟩ (.string (toBA (encR r)))).cell? ⟨w.heap.size, 4, none⟩ = some (.int .i64 (j0 : Int)) := (by rw [← unhide HEj]; exact cells_of hset.1.box 4 _ rfl)
                 have HP1 := hide hset
                 clear hset))
             )
          | fail
        obtain ⟨W3, hW3⟩ : ∃ W3, W3 = w2.setCell ⟨g, j0 * 2, none⟩ (.string (toBA (encR r))) := ⟨_, rfl⟩
        rw [← hW3] at HP1 p4 ⊢
        have H3 := hide (unhide HP1).1
        have HF3 := hide (Fr.tr (unhide HF2) ((unhide HP1).2.mono (fun q hq => rowB (unhide H2) i0 hiR hq)))
        have HZ3 := hide ((unhide HP1).2.kept (unhide HZ2) (fun e => ((unhide H2).kept _ (.inr rfl)).2 (.inr (.inl ⟨i0, hiR, e⟩))))
        clear HP1 hW3 b1 b2 b3 b4 e4 H2 HF2 HZ2 HB HFB HZB a4 p4 HU
        have c4 : W3.cell? ⟨w.heap.size, 4, none⟩ = some (.int .i64 (j0 : Int)) := by rw [← unhide HEj]; exact cells_of (unhide H3).box 4 _ rfl
        have bj1 : (j0 : Int) + 1 < d1.cols := by omega
        have wj1 : IntKind.i64.wrap ((j0 : Int) + 1) = (j0 : Int) + 1 := by rw [IntKind.wrap_i64] <;> omega
        have hset := (unhide H3).setH1 i0 (j0 + 1) g cap hiR (by show j0 + 1 < d1.C i0; omega) (unhide HG)
        obtain ⟨g', cap', e', b1, b2, b3, b4⟩ := (unhide H3).cellOf i0 (j0 + 1) hiR (by show j0 + 1 < d1.C i0; omega)
        rw [unhide HG] at e'
        simp only [Value.slice.injEq, Option.some.injEq, Addr.mk.injEq, and_true] at e'
        rw [← e'.1] at b1 b2 b3 b4
        clear e'
        obtain ⟨W5, hW5⟩ : ∃ W5, W5 = W3.setCell ⟨g, (j0 + 1) * 2 + 1, none⟩ (.bool true) := ⟨_, rfl⟩
        rw [← hW5] at hset
        have H5 := hide hset.1
        have HF5 := hide (Fr.tr (unhide HF3) (hset.2.mono (fun q hq => rowB (unhide H3) i0 hiR hq)))
        have HZ5 := hide (hset.2.kept (unhide HZ3) (fun e => ((unhide H3).kept _ (.inr rfl)).2 (.inr (.inl ⟨i0, hiR, e⟩))))
        have HW5 := hide hW5
        clear hset hW5
        go_wp2_with (show wpList _ _ _ (List.cons ⟨some 73, _, _, _, _, _⟩ _) _ _; rw [← unhide HW5]; refine StopQ.intro ?_)
        show wpList _ _ _ _ _ _
        clear b1 b2 b3 b4 HW5 H3 HF3 HZ3 c4
        have wcm : IntKind.i64.wrap (d1.cols - 1) = d1.cols - 1 := by rw [IntKind.wrap_i64] <;> omega
        obtain ⟨d2, hd2⟩ : ∃ x, x = d1.put2 (toBA (encR r)) 2 := ⟨_, rfl⟩
        have HS2 : Hid (ScrW W5 w.heap.size base (fun q => X q ∨ q = w.heap.size + 1) d2 (.slice (some ⟨gb, gk, none⟩) d1.R gc) rv (.slice hs ha hc) (.slice ba d1.nb bc)) := hide (by
          have h9 := unhide H5
          rw [hd2]
          unfold SD.put2 SD.put1
          rw [if_pos rfl, unhide HEi, unhide HEj, Int.toNat_natCast, Int.toNat_natCast]
          exact h9)
        have hrest := put2_rest d1 (toBA (encR r)) 2
        rw [← hd2] at hrest
        have HRest := hide hrest
        have HD2 := hide hd2
        clear hrest hd2 H5
        have c0 : W5.cell? ⟨w.heap.size, 0, none⟩ = some (.int .i64 d1.cols) := by rw [← (unhide HRest).1]; exact cells_of (unhide HS2).box 0 _ rfl
        have c4 : W5.cell? ⟨w.heap.size, 4, none⟩ = some (.int .i64 (j0 : Int)) := by rw [← unhide HEj, ← (unhide HRest).2.1]; exact cells_of (unhide HS2).box 4 _ rfl
        have c5 := cells_of (unhide HS2).box 5 _ rfl
        have f4 : W5.frozen? ⟨w.heap.size, 4, none⟩ = false := Lib.frozen_of_heap (unhide HS2).box 4
        have f5 : W5.frozen? ⟨w.heap.size, 5, none⟩ = false := Lib.frozen_of_heap (unhide HS2).box 5
        by_cases hfull : d1.cols ≤ (j0 : Int) + 2
        · have HE3 : Hid (d.put rowT (toBA (encR r)) 2 = { d2 with col := d1.cols - 1, late := true }) := hide (by unfold SD.put; rw [← unhide HDE]; unfold SD.put3; rw [if_pos (by rw [unhide HEj]; exact hfull), ← unhide HD2])
          have fs : Fr (fun k => k = w.heap.size) W5 (((W5.setCell ⟨w.heap.size, 4, none⟩ (.int .i64 ((j0 : Int) + 2))).setCell ⟨w.heap.size, 4, none⟩ (.int .i64 (d1.cols - 1))).setCell ⟨w.heap.size, 5, none⟩ (.bool true)) := Fr.setCell (S := fun k => k = w.heap.size) (Fr.setCell (S := fun k => k = w.heap.size) (Fr.setCell (S := fun k => k = w.heap.size) (Fr.refl _ _) (a := ⟨w.heap.size, 4, none⟩) rfl _) (a := ⟨w.heap.size, 4, none⟩) rfl _) (a := ⟨w.heap.size, 5, none⟩) rfl _
          have hfin := (unhide HS2).head fs d2.row (d1.cols - 1) true (set_blk2 (set_blk2 (set_blk2 (unhide HS2).box rfl) rfl) rfl)
          obtain ⟨U, hU⟩ : ∃ U, U = ((W5.setCell ⟨w.heap.size, 4, none⟩ (.int .i64 ((j0 : Int) + 2))).setCell ⟨w.heap.size, 4, none⟩ (.int .i64 (d1.cols - 1))).setCell ⟨w.heap.size, 5, none⟩ (.bool true) := ⟨_, rfl⟩
          rw [← hU] at hfin fs
          have HUU := hide hU
          have HFin := hide hfin
          have HFs := hide fs
          have HSB := hide hfin.box
          have HSZ := hide (fs.kept (unhide HZ5) (by omega))
          clear fs hfin hU
          go_wp2_with (show wpList _ _ _ (List.cons ⟨some 88, _, _, _, _, _⟩ _) _ _; rw [← unhide HUU]; refine StopQ.intro ?_)
          show wpList _ _ _ _ _ _
          refine wpList_load_blk rfl 26 _ rfl w.heap.size rfl _ _ _ _ (unhide HSB) Tryz.underlying26 rfl infoScr8 ?_
          simp only [Act.put, List.setIfInBounds_toArray, List.set_cons_zero, List.set_cons_succ]
          refine wpList_store_blk rfl 26 _ _ rfl rfl (w.heap.size + 1) rfl _ _ _ rfl (unhide HSZ) infoScr8 rfl (by simp [Value.oneCell']) ?_
          intro X9 HX9 hX9
          have HXB := hide HX9
          have HXF := hide hX9
          clear HX9 hX9
          refine wpList_nil ?_
          rename_i hKK
          refine hKK _ _ ?_
          refine wp_ret ?_
          have v0 := cells_of (unhide HXB) 0 _ rfl
          have v1 := cells_of (unhide HXB) 1 _ rfl
          have v2 := cells_of (unhide HXB) 2 _ rfl
          have v3 := cells_of (unhide HXB) 3 _ rfl
          have v4 := cells_of (unhide HXB) 4 _ rfl
          have v5 := cells_of (unhide HXB) 5 _ rfl
          have v6 := cells_of (unhide HXB) 6 _ rfl
          have v7 := cells_of (unhide HXB) 7 _ rfl
          have hV9 := (unhide HFin).toV.fr (unhide HXF) (fun g9 hg9 e9 => ((unhide HFin).kept g9 (.inr e9)).2 hg9)
          have hF9 : FrV base X w X9 := Fr.tr (Fr.tr (unhide HF5) ((unhide HFs).mono (fun q hq => ⟨by have := (unhide H).top; omega, fun hx => by have := ((unhide H).kept q hx).1; omega⟩))) ((unhide HXF).mono (fun q hq => ⟨by have := (unhide H).top; omega, fun hx => by have := ((unhide H).kept q hx).1; omega⟩))
          refine bodyPost_ret (v := scrV (d.put rowT (toBA (encR r)) 2) (.slice (some ⟨gb, gk, none⟩) d1.R gc) (.slice hs ha hc) (.slice ba d1.nb bc)) (by rw [unhide HE3]; unfold scrV; simp [results, Tryz.results43, go_sem, v0, v1, v2, v3, v4, v5, v6, v7]) rfl ⟨_, rv, _, rfl, by rw [unhide HE3]; exact hV9.keep (fun q hq => .inl hq), hF9⟩
        · have HE3 : Hid (d.put rowT (toBA (encR r)) 2 = { d2 with col := (j0 : Int) + 2 }) := hide (by unfold SD.put; rw [← unhide HDE]; unfold SD.put3; rw [if_neg (by rw [unhide HEj]; exact hfull), ← unhide HD2, unhide HEj])
          have fs : Fr (fun k => k = w.heap.size) W5 (W5.setCell ⟨w.heap.size, 4, none⟩ (.int .i64 ((j0 : Int) + 2))) := Fr.setCell (S := fun k => k = w.heap.size) (Fr.refl _ _) (a := ⟨w.heap.size, 4, none⟩) rfl _
          have hfin := (unhide HS2).head fs d2.row ((j0 : Int) + 2) d2.late (set_blk2 (unhide HS2).box rfl)
          obtain ⟨U, hU⟩ : ∃ U, U = W5.setCell ⟨w.heap.size, 4, none⟩ (.int .i64 ((j0 : Int) + 2)) := ⟨_, rfl⟩
          rw [← hU] at hfin fs
          have HUU := hide hU
          have HFin := hide hfin
          have HFs := hide fs
          have HSB := hide hfin.box
          have HSZ := hide (fs.kept (unhide HZ5) (by omega))
          clear fs hfin hU
          go_wp2_with (show wpList _ _ _ (List.cons ⟨some 88, _, _, _, _, _⟩ _) _ _; rw [← unhide HUU]; refine StopQ.intro ?_)
          show wpList _ _ _ _ _ _
          refine wpList_load_blk rfl 26 _ rfl w.heap.size rfl _ _ _ _ (unhide HSB) Tryz.underlying26 rfl infoScr8 ?_
          simp only [Act.put, List.setIfInBounds_toArray, List.set_cons_zero, List.set_cons_succ]
          refine wpList_store_blk rfl 26 _ _ rfl rfl (w.heap.size + 1) rfl _ _ _ rfl (unhide HSZ) infoScr8 rfl (by simp [Value.oneCell']) ?_
          intro X9 HX9 hX9
          have HXB := hide HX9
          have HXF := hide hX9
          clear HX9 hX9
          refine wpList_nil ?_
          rename_i hKK
          refine hKK _ _ ?_
          refine wp_ret ?_
          have v0 := cells_of (unhide HXB) 0 _ rfl
          have v1 := cells_of (unhide HXB) 1 _ rfl
          have v2 := cells_of (unhide HXB) 2 _ rfl
          have v3 := cells_of (unhide HXB) 3 _ rfl
          have v4 := cells_of (unhide HXB) 4 _ rfl
          have v5 := cells_of (unhide HXB) 5 _ rfl
          have v6 := cells_of (unhide HXB) 6 _ rfl
          have v7 := cells_of (unhide HXB) 7 _ rfl
          have hV9 := (unhide HFin).toV.fr (unhide HXF) (fun g9 hg9 e9 => ((unhide HFin).kept g9 (.inr e9)).2 hg9)
          have hF9 : FrV base X w X9 := Fr.tr (Fr.tr (unhide HF5) ((unhide HFs).mono (fun q hq => ⟨by have := (unhide H).top; omega, fun hx => by have := ((unhide H).kept q hx).1; omega⟩))) ((unhide HXF).mono (fun q hq => ⟨by have := (unhide H).top; omega, fun hx => by have := ((unhide H).kept q hx).1; omega⟩))
          refine bodyPost_ret (v := scrV (d.put rowT (toBA (encR r)) 2) (.slice (some ⟨gb, gk, none⟩) d1.R gc) (.slice hs ha hc) (.slice ba d1.nb bc)) (by rw [unhide HE3]; unfold scrV; simp [results, Tryz.results43, go_sem, v0, v1, v2, v3, v4, v5, v6, v7]) rfl ⟨_, rv, _, rfl, by rw [unhide HE3]; exact hV9.keep (fun q hq => .inl hq), hF9⟩
  · cases hl : d.late with
    | true =>
      rw [hl] at c5 HDn
      go_wp2_with fail
      refine (unhide HDn).mono ?_
      rintro e w3 ⟨gv3, rv3, bv3, rfl, hV3, f3⟩
      obtain ⟨gb3, gk3, gc3, _, hgv3, _⟩ := id hV3.grid
      obtain ⟨ba3, bc3, hbv3⟩ : ∃ a c, bv3 = .slice a (d.down rowT).nb c := by obtain ⟨_, h9, _⟩ := hV3.back; exact owns_ln h9
      subst hgv3
      subst hbv3
      have HSB3 := hide (f3.kept (unhide HSB) (fun x => x.2 (.inr (.inl rfl))))
      have HSZ3 := hide (f3.kept (unhide HSZ) (fun x => x.2 (.inr (.inr rfl))))
      have HV3 := hide hV3
      have HF3 := hide f3
      unfold scrV
      clear hV3 f3 HDn c0 c1 c2 c3 c4 c5 c6 c7
      go_wp2_with (refine wpList_store_blk rfl 26 _ _ rfl rfl w.heap.size rfl _ _ _ rfl (unhide HSB3) infoScr8 rfl (by simp [Value.oneCell']) ?_; intro Y HY9 hY9; have k4 := cells_of HY9 4 _ rfl; have k4f : Y.frozen? ⟨w.heap.size, 4, none⟩ = false := Lib.frozen_of_heap HY9 4; have HYB := hide HY9; have HYF := hide hY9; clear HY9 hY9; refine StopQ.intro ?_)
      show wpList _ _ _ _ _ _
      obtain ⟨wa, hwa⟩ : ∃ wa, wa = Y.setCell ⟨w.heap.size, 4, none⟩ (.int .i64 0) := ⟨_, rfl⟩
      have fa : Fr (fun k => k = w.heap.size) Y wa := by rw [hwa]; exact Fr.setCell (S := fun k => k = w.heap.size) (Fr.refl _ _) (a := ⟨w.heap.size, 4, none⟩) rfl _
      have hWY : ScrW Y w.heap.size base (fun q => X q ∨ q = w.heap.size + 1) (d.down rowT) (.slice (some ⟨gb3, gk3, none⟩) (d.down rowT).R gc3) rv3 (.slice hs ha hc) (.slice ba3 (d.down rowT).nb bc3) := (((unhide HV3).fr (unhide HYF) (fun g9 hg9 e9 => ((unhide HV3).kept g9 (.inr (.inl e9))).2 hg9)).keep (fun q hq => hq.imp id .inr)).toW (unhide HYB) ((unhide HV3).kept _ (.inr (.inl rfl))).2
      have HA : Hid (ScrW wa w.heap.size base (fun q => X q ∨ q = w.heap.size + 1) d1 (.slice (some ⟨gb3, gk3, none⟩) (d.down rowT).R gc3) rv3 (.slice hs ha hc) (.slice ba3 (d.down rowT).nb bc3)) := hide (by
        have h9 := hWY.head fa (d.down rowT).row 0 (d.down rowT).late (by rw [hwa]; exact set_blk2 hWY.box rfl)
        have e9 : d1 = { d.down rowT with col := 0 } := by rw [unhide HDE]; unfold SD.wrapL; rw [if_pos (.inl hl)]
        rw [e9]
        exact h9)
      have HFA : Hid (FrV base X w wa) := hide (Fr.tr (Fr.tr (Fr.tr (Fr.of_ext (unhide HE1)) ((unhide HF3).mono (fun q hq => ⟨hq.1, fun hx => hq.2 (.inl hx)⟩))) ((unhide HYF).mono (fun q hq => ⟨by have := (unhide H).top; omega, fun hx => by have := ((unhide H).kept q hx).1; omega⟩))) (fa.mono (fun q hq => ⟨by have := (unhide H).top; omega, fun hx => by have := ((unhide H).kept q hx).1; omega⟩)))
      have HZA : Hid (wa.heap[w.heap.size + 1]? = some (.cells #[.int .i64 0, .int .i64 0, .slice none 0 0, .int .i64 0, .int .i64 0, .bool false, .slice none 0 0, .slice none 0 0] 26 (0, 0))) := hide (fa.kept ((unhide HYF).kept (unhide HSZ3) (by omega)) (by omega))
      have HWA := hide hwa
      have eR : (d.down rowT).R = d1.R := by rw [unhide HDE]; unfold SD.wrapL; rw [if_pos (.inl hl)]
      have eN : (d.down rowT).nb = d1.nb := by rw [unhide HDE]; unfold SD.wrapL; rw [if_pos (.inl hl)]
      rw [eR, eN] at HA
      clear fa hWY hwa HV3 HF3 HYF HYB HSB3 HSZ3 eR eN
      generalize rv3 = rva at *
      have ok1 := (unhide HD1).1
      have hs1 := size_bd ok1
      have hrow1 := ok1.row
      have hcol1 := ok1.col
      have hle1 := (unhide HD1).2
      obtain ⟨i0, ei0⟩ : ∃ i0 : Nat, d1.row = i0 := ⟨d1.row.toNat, by omega⟩
      obtain ⟨j0, ej0⟩ : ∃ j0 : Nat, d1.col = j0 := ⟨d1.col.toNat, by omega⟩
      have hR1 := ok1.R
      have hiR : i0 < d1.R := by omega
      have hCi := ok1.C i0 hiR
      have hjC : j0 + 2 ≤ d1.C i0 := by omega
      obtain ⟨g, cap, hg⟩ : ∃ g cap, rva i0 = .slice (some ⟨g, 0, none⟩) (d1.C i0) cap := by
        rcases ((unhide HA).row i0 hiR).form with ⟨_, e⟩ | ⟨g, cap, e⟩
        · omega
        · exact ⟨g, cap, e⟩
      obtain ⟨cur9, hgb9, hgA9⟩ : ∃ cur, wa.heap[gb3]? = some (.cells cur 81 (0, 0)) ∧ ∀ j, j < d1.R → cur[gk3 + j]? = some (rva j) := by
        obtain ⟨g', k', c', cur, e, _, hgb, _, _, _, hgA⟩ := id (unhide HA).grid
        simp only [Value.slice.injEq, Option.some.injEq, Addr.mk.injEq, and_true, true_and] at e
        obtain ⟨⟨rfl, rfl⟩, rfl⟩ := e
        exact ⟨cur, hgb, hgA⟩
      have r1 : wa.cell? ⟨gb3, gk3 + i0, none⟩ = some (.slice (some ⟨g, 0, none⟩) (d1.C i0) cap) := by rw [← hg]; exact cells_of hgb9 (gk3 + i0) _ (hgA9 i0 hiR)
      have a2 := cells_of (unhide HA).box 2 _ rfl
      have a3 : wa.cell? ⟨w.heap.size, 3, none⟩ = some (.int .i64 (i0 : Int)) := by rw [← ei0]; exact cells_of (unhide HA).box 3 _ rfl
      have a4 : wa.cell? ⟨w.heap.size, 4, none⟩ = some (.int .i64 (j0 : Int)) := by rw [← ej0]; exact cells_of (unhide HA).box 4 _ rfl
      have hrow9 : OwnC wa base (.slice (some ⟨g, 0, none⟩) (d1.C i0) cap) (d1.C i0) (d1.tx i0) (d1.hf i0) := by rw [← hg]; exact (unhide HA).row i0 hiR
      have HCl := hide (fun W9 (hW9 : Ext wa W9) => l2Clear_any (a := j0) (b := j0 + 2) W9 (d1.tx i0) (d1.hf i0) (Own2.ext hrow9 hW9) (by omega) hjC (by omega) (fun hh => (ok1.half i0 j0 hiR (by omega) hh).2.1))
      have HG := hide hg
      have HOK1 := hide ok1
      have HEi := hide ei0
      have HEj := hide ej0
      have wjw : IntKind.i64.wrap ((j0 : Int) + 2) = (j0 : Int) + 2 := by rw [IntKind.wrap_i64] <;> omega
      have b1 : (i0 : Int) < d1.rows := by omega
      have b2 : (i0 : Int) < (d1.R : Int) := by omega
      clear hg ok1 hgb9 hgA9 hrow9 ei0 ej0
      rw [unhide HWA] at a2 a3 a4 r1
      go_wp2_with fail
      rw [← unhide HWA] at a2 a3 a4 r1 ⊢
      refine ((unhide HCl) wa (Ext.refl _)).mono ?_
      rintro e wb ⟨rfl, ob, fb⟩
      have HB := hide ((unhide HA).clrAt i0 j0 (j0 + 2) g cap hiR (unhide HG) ob fb)
      have HFB := hide (Fr.tr (unhide HFA) (fb.mono (fun q hq => by subst hq; exact rowG (unhide HA) i0 hiR (unhide HG))))
      have HZB := hide (fb.kept (unhide HZA) (fun e => by have := ((unhide HA).kept _ (.inr rfl)).2 (.inr (.inl ⟨i0, hiR, by rw [unhide HG]; exact congrArg some e.symm⟩)); exact this))
      clear ob fb HCl HA HFA HZA a2 a3 a4 r1
      go_wp2_with fail
      have bj0 : (j0 : Int) < d1.cols := by omega
      have a4 : wb.cell? ⟨w.heap.size, 4, none⟩ = some (.int .i64 (j0 : Int)) := by rw [← unhide HEj]; exact cells_of (unhide HB).box 4 _ rfl
      first
        | (go_region_held3 (fun W => W.cell? ⟨w.heap.size, 4, none⟩ = some (.int .i64 (j0 : Int))) (first | exact a4 | exact e4 | exact p4) (first
            | (go_at_call 97
               refine ((unhide HU) _).mono ?_
               rintro e w2 ⟨rfl, E2⟩
               have E3 : Ext wb w2 := (Ext.refl wb).drew.trans E2
               have H2 := hide ((unhide HB).ext E3)
               have HF2 := hide (Fr.tr (unhide HFB) (Fr.of_ext E3))
               have HZ2 := hide (E3.kept (unhide HZB))
               obtain ⟨g', cap', e', b1, b2, b3, b4⟩ := (unhide H2).cellOf i0 j0 hiR (by show j0 < d1.C i0; omega)
               rw [unhide HG] at e'
               simp only [Value.slice.injEq, Option.some.injEq, Addr.mk.injEq, and_true] at e'
               rw [← e'.1] at b1 b2 b3 b4
               clear e' E2 E3
               have e4 : w2.cell? ⟨w.heap.size, 4, none⟩ = some (.int .i64 (j0 : Int)) := (by rw [← unhide HEj]; exact cells_of (unhide H2).box 4 _ rfl)
               have hset := (unhide H2).setT1 i0 j0 g cap hiR (by show j0 < d1.C i0; omega) (unhide HG) (toBA (encR r))
               have p4 : (w2.setCell ⟨g, j0 * 2, none⟩ (.string (toBA (encR r)))).cell? ⟨w.heap.size, 4, none⟩ = some (.int .i64 (j0 : Int)) := (by rw [← unhide HEj]; exact cells_of hset.1.box 4 _ rfl)
               have HP1 := hide hset
               clear hset))
           )
        | fail
      obtain ⟨W3, hW3⟩ : ∃ W3, W3 = w2.setCell ⟨g, j0 * 2, none⟩ (.string (toBA (encR r))) := ⟨_, rfl⟩
      rw [← hW3] at HP1 p4 ⊢
      have H3 := hide (unhide HP1).1
      have HF3 := hide (Fr.tr (unhide HF2) ((unhide HP1).2.mono (fun q hq => rowB (unhide H2) i0 hiR hq)))
      have HZ3 := hide ((unhide HP1).2.kept (unhide HZ2) (fun e => ((unhide H2).kept _ (.inr rfl)).2 (.inr (.inl ⟨i0, hiR, e⟩))))
      clear HP1 hW3 b1 b2 b3 b4 e4 H2 HF2 HZ2 HB HFB HZB a4 p4 HU
      have c4 : W3.cell? ⟨w.heap.size, 4, none⟩ = some (.int .i64 (j0 : Int)) := by rw [← unhide HEj]; exact cells_of (unhide H3).box 4 _ rfl
      have bj1 : (j0 : Int) + 1 < d1.cols := by omega
      have wj1 : IntKind.i64.wrap ((j0 : Int) + 1) = (j0 : Int) + 1 := by rw [IntKind.wrap_i64] <;> omega
      have hset := (unhide H3).setH1 i0 (j0 + 1) g cap hiR (by show j0 + 1 < d1.C i0; omega) (unhide HG)
      obtain ⟨g', cap', e', b1, b2, b3, b4⟩ := (unhide H3).cellOf i0 (j0 + 1) hiR (by show j0 + 1 < d1.C i0; omega)
      rw [unhide HG] at e'
      simp only [Value.slice.injEq, Option.some.injEq, Addr.mk.injEq, and_true] at e'
      rw [← e'.1] at b1 b2 b3 b4
      clear e'
      obtain ⟨W5, hW5⟩ : ∃ W5, W5 = W3.setCell ⟨g, (j0 + 1) * 2 + 1, none⟩ (.bool true) := ⟨_, rfl⟩
      rw [← hW5] at hset
      have H5 := hide hset.1
      have HF5 := hide (Fr.tr (unhide HF3) (hset.2.mono (fun q hq => rowB (unhide H3) i0 hiR hq)))
      have HZ5 := hide (hset.2.kept (unhide HZ3) (fun e => ((unhide H3).kept _ (.inr rfl)).2 (.inr (.inl ⟨i0, hiR, e⟩))))
      have HW5 := hide hW5
      clear hset hW5
      go_wp2_with (show wpList _ _ _ (List.cons ⟨some 73, _, _, _, _, _⟩ _) _ _; rw [← unhide HW5]; refine StopQ.intro ?_)
      show wpList _ _ _ _ _ _
      clear b1 b2 b3 b4 HW5 H3 HF3 HZ3 c4
      have wcm : IntKind.i64.wrap (d1.cols - 1) = d1.cols - 1 := by rw [IntKind.wrap_i64] <;> omega
      obtain ⟨d2, hd2⟩ : ∃ x, x = d1.put2 (toBA (encR r)) 2 := ⟨_, rfl⟩
      have HS2 : Hid (ScrW W5 w.heap.size base (fun q => X q ∨ q = w.heap.size + 1) d2 (.slice (some ⟨gb3, gk3, none⟩) d1.R gc3) rva (.slice hs ha hc) (.slice ba3 d1.nb bc3)) := hide (by
        have h9 := unhide H5
        rw [hd2]
        unfold SD.put2 SD.put1
        rw [if_pos rfl, unhide HEi, unhide HEj, Int.toNat_natCast, Int.toNat_natCast]
        exact h9)
      have hrest := put2_rest d1 (toBA (encR r)) 2
      rw [← hd2] at hrest
      have HRest := hide hrest
      have HD2 := hide hd2
      clear hrest hd2 H5
      have c0 : W5.cell? ⟨w.heap.size, 0, none⟩ = some (.int .i64 d1.cols) := by rw [← (unhide HRest).1]; exact cells_of (unhide HS2).box 0 _ rfl
      have c4 : W5.cell? ⟨w.heap.size, 4, none⟩ = some (.int .i64 (j0 : Int)) := by rw [← unhide HEj, ← (unhide HRest).2.1]; exact cells_of (unhide HS2).box 4 _ rfl
      have c5 := cells_of (unhide HS2).box 5 _ rfl
      have f4 : W5.frozen? ⟨w.heap.size, 4, none⟩ = false := Lib.frozen_of_heap (unhide HS2).box 4
      have f5 : W5.frozen? ⟨w.heap.size, 5, none⟩ = false := Lib.frozen_of_heap (unhide HS2).box 5
      by_cases hfull : d1.cols ≤ (j0 : Int) + 2
      · have HE3 : Hid (d.put rowT (toBA (encR r)) 2 = { d2 with col := d1.cols - 1, late := true }) := hide (by unfold SD.put; rw [← unhide HDE]; unfold SD.put3; rw [if_pos (by rw [unhide HEj]; exact hfull), ← unhide HD2])
        have fs : Fr (fun k => k = w.heap.size) W5 (((W5.setCell ⟨w.heap.size, 4, none⟩ (.int .i64 ((j0 : Int) + 2))).setCell ⟨w.heap.size, 4, none⟩ (.int .i64 (d1.cols - 1))).setCell ⟨w.heap.size, 5, none⟩ (.bool true)) := Fr.setCell (S := fun k => k = w.heap.size) (Fr.setCell (S := fun k => k = w.heap.size) (Fr.setCell (S := fun k => k = w.heap.size) (Fr.refl _ _) (a := ⟨w.heap.size, 4, none⟩) rfl _) (a := ⟨w.heap.size, 4, none⟩) rfl _) (a := ⟨w.heap.size, 5, none⟩) rfl _
        have hfin := (unhide HS2).head fs d2.row (d1.cols - 1) true (set_blk2 (set_blk2 (set_blk2 (unhide HS2).box rfl) rfl) rfl)
        obtain ⟨U, hU⟩ : ∃ U, U = ((W5.setCell ⟨w.heap.size, 4, none⟩ (.int .i64 ((j0 : Int) + 2))).setCell ⟨w.heap.size, 4, none⟩ (.int .i64 (d1.cols - 1))).setCell ⟨w.heap.size, 5, none⟩ (.bool true) := ⟨_, rfl⟩
        rw [← hU] at hfin fs
        have HUU := hide hU
        have HFin := hide hfin
        have HFs := hide fs
        have HSB := hide hfin.box
        have HSZ := hide (fs.kept (unhide HZ5) (by omega))
        clear fs hfin hU
        go_wp2_with (show wpList _ _ _ (List.cons ⟨some 88, _, _, _, _, _⟩ _) _ _; rw [← unhide HUU]; refine StopQ.intro ?_)
        show wpList _ _ _ _ _ _
        refine wpList_load_blk rfl 26 _ rfl w.heap.size rfl _ _ _ _ (unhide HSB) Tryz.underlying26 rfl infoScr8 ?_
        simp only [Act.put, List.setIfInBounds_toArray, List.set_cons_zero, List.set_cons_succ]
        refine wpList_store_blk rfl 26 _ _ rfl rfl (w.heap.size + 1) rfl _ _ _ rfl (unhide HSZ) infoScr8 rfl (by simp [Value.oneCell']) ?_
        intro X9 HX9 hX9
        have HXB := hide HX9
        have HXF := hide hX9
        clear HX9 hX9
        refine wpList_nil ?_
        rename_i hKK
        refine hKK _ _ ?_
        refine wp_ret ?_
        have v0 := cells_of (unhide HXB) 0 _ rfl
        have v1 := cells_of (unhide HXB) 1 _ rfl
        have v2 := cells_of (unhide HXB) 2 _ rfl
        have v3 := cells_of (unhide HXB) 3 _ rfl
        have v4 := cells_of (unhide HXB) 4 _ rfl
        have v5 := cells_of (unhide HXB) 5 _ rfl
        have v6 := cells_of (unhide HXB) 6 _ rfl
        have v7 := cells_of (unhide HXB) 7 _ rfl
        have hV9 := (unhide HFin).toV.fr (unhide HXF) (fun g9 hg9 e9 => ((unhide HFin).kept g9 (.inr e9)).2 hg9)
        have hF9 : FrV base X w X9 := Fr.tr (Fr.tr (unhide HF5) ((unhide HFs).mono (fun q hq => ⟨by have := (unhide H).top; omega, fun hx => by have := ((unhide H).kept q hx).1; omega⟩))) ((unhide HXF).mono (fun q hq => ⟨by have := (unhide H).top; omega, fun hx => by have := ((unhide H).kept q hx).1; omega⟩))
        refine bodyPost_ret (v := scrV (d.put rowT (toBA (encR r)) 2) (.slice (some ⟨gb3, gk3, none⟩) d1.R gc3) (.slice hs ha hc) (.slice ba3 d1.nb bc3)) (by rw [unhide HE3]; unfold scrV; simp [results, Tryz.results43, go_sem, v0, v1, v2, v3, v4, v5, v6, v7]) rfl ⟨_, rva, _, rfl, by rw [unhide HE3]; exact hV9.keep (fun q hq => .inl hq), hF9⟩
      · have HE3 : Hid (d.put rowT (toBA (encR r)) 2 = { d2 with col := (j0 : Int) + 2 }) := hide (by unfold SD.put; rw [← unhide HDE]; unfold SD.put3; rw [if_neg (by rw [unhide HEj]; exact hfull), ← unhide HD2, unhide HEj])
        have fs : Fr (fun k => k = w.heap.size) W5 (W5.setCell ⟨w.heap.size, 4, none⟩ (.int .i64 ((j0 : Int) + 2))) := Fr.setCell (S := fun k => k = w.heap.size) (Fr.refl _ _) (a := ⟨w.heap.size, 4, none⟩) rfl _
        have hfin := (unhide HS2).head fs d2.row ((j0 : Int) + 2) d2.late (set_blk2 (unhide HS2).box rfl)
        obtain ⟨U, hU⟩ : ∃ U, U = W5.setCell ⟨w.heap.size, 4, none⟩ (.int .i64 ((j0 : Int) + 2)) := ⟨_, rfl⟩
        rw [← hU] at hfin fs
        have HUU := hide hU
        have HFin := hide hfin
        have HFs := hide fs
        have HSB := hide hfin.box
        have HSZ := hide (fs.kept (unhide HZ5) (by omega))
        clear fs hfin hU
        go_wp2_with (show wpList _ _ _ (List.cons ⟨some 88, _, _, _, _, _⟩ _) _ _; rw [← unhide HUU]; refine StopQ.intro ?_)
        show wpList _ _ _ _ _ _
        refine wpList_load_blk rfl 26 _ rfl w.heap.size rfl _ _ _ _ (unhide HSB) Tryz.underlying26 rfl infoScr8 ?_
        simp only [Act.put, List.setIfInBounds_toArray, List.set_cons_zero, List.set_cons_succ]
        refine wpList_store_blk rfl 26 _ _ rfl rfl (w.heap.size + 1) rfl _ _ _ rfl (unhide HSZ) infoScr8 rfl (by simp [Value.oneCell']) ?_
        intro X9 HX9 hX9
        have HXB := hide HX9
        have HXF := hide hX9
        clear HX9 hX9
        refine wpList_nil ?_
        rename_i hKK
        refine hKK _ _ ?_
        refine wp_ret ?_
        have v0 := cells_of (unhide HXB) 0 _ rfl
        have v1 := cells_of (unhide HXB) 1 _ rfl
        have v2 := cells_of (unhide HXB) 2 _ rfl
        have v3 := cells_of (unhide HXB) 3 _ rfl
        have v4 := cells_of (unhide HXB) 4 _ rfl
        have v5 := cells_of (unhide HXB) 5 _ rfl
        have v6 := cells_of (unhide HXB) 6 _ rfl
        have v7 := cells_of (unhide HXB) 7 _ rfl
        have hV9 := (unhide HFin).toV.fr (unhide HXF) (fun g9 hg9 e9 => ((unhide HFin).kept g9 (.inr e9)).2 hg9)
        have hF9 : FrV base X w X9 := Fr.tr (Fr.tr (unhide HF5) ((unhide HFs).mono (fun q hq => ⟨by have := (unhide H).top; omega, fun hx => by have := ((unhide H).kept q hx).1; omega⟩))) ((unhide HXF).mono (fun q hq => ⟨by have := (unhide H).top; omega, fun hx => by have := ((unhide H).kept q hx).1; omega⟩))
        refine bodyPost_ret (v := scrV (d.put rowT (toBA (encR r)) 2) (.slice (some ⟨gb3, gk3, none⟩) d1.R gc3) (.slice hs ha hc) (.slice ba3 d1.nb bc3)) (by rw [unhide HE3]; unfold scrV; simp [results, Tryz.results43, go_sem, v0, v1, v2, v3, v4, v5, v6, v7]) rfl ⟨_, rva, _, rfl, by rw [unhide HE3]; exact hV9.keep (fun q hq => .inl hq), hF9⟩
    | false =>
      rw [hl] at c5 HDn
      by_cases hcc : d.col = d.cols - 1
      · have hcb : (d.col == d.cols - 1) = true := by simp [hcc]
        have HCC := hide hcc
        clear hcc
        go_wp2_with fail
        refine (unhide HDn).mono ?_
        rintro e w3 ⟨gv3, rv3, bv3, rfl, hV3, f3⟩
        obtain ⟨gb3, gk3, gc3, _, hgv3, _⟩ := id hV3.grid
        obtain ⟨ba3, bc3, hbv3⟩ : ∃ a c, bv3 = .slice a (d.down rowT).nb c := by obtain ⟨_, h9, _⟩ := hV3.back; exact owns_ln h9
        subst hgv3
        subst hbv3
        have HSB3 := hide (f3.kept (unhide HSB) (fun x => x.2 (.inr (.inl rfl))))
        have HSZ3 := hide (f3.kept (unhide HSZ) (fun x => x.2 (.inr (.inr rfl))))
        have HV3 := hide hV3
        have HF3 := hide f3
        unfold scrV
        clear hV3 f3 HDn c0 c1 c2 c3 c4 c5 c6 c7
        go_wp2_with (refine wpList_store_blk rfl 26 _ _ rfl rfl w.heap.size rfl _ _ _ rfl (unhide HSB3) infoScr8 rfl (by simp [Value.oneCell']) ?_; intro Y HY9 hY9; have k4 := cells_of HY9 4 _ rfl; have k4f : Y.frozen? ⟨w.heap.size, 4, none⟩ = false := Lib.frozen_of_heap HY9 4; have HYB := hide HY9; have HYF := hide hY9; clear HY9 hY9; refine StopQ.intro ?_)
        show wpList _ _ _ _ _ _
        obtain ⟨wa, hwa⟩ : ∃ wa, wa = Y.setCell ⟨w.heap.size, 4, none⟩ (.int .i64 0) := ⟨_, rfl⟩
        have fa : Fr (fun k => k = w.heap.size) Y wa := by rw [hwa]; exact Fr.setCell (S := fun k => k = w.heap.size) (Fr.refl _ _) (a := ⟨w.heap.size, 4, none⟩) rfl _
        have hWY : ScrW Y w.heap.size base (fun q => X q ∨ q = w.heap.size + 1) (d.down rowT) (.slice (some ⟨gb3, gk3, none⟩) (d.down rowT).R gc3) rv3 (.slice hs ha hc) (.slice ba3 (d.down rowT).nb bc3) := (((unhide HV3).fr (unhide HYF) (fun g9 hg9 e9 => ((unhide HV3).kept g9 (.inr (.inl e9))).2 hg9)).keep (fun q hq => hq.imp id .inr)).toW (unhide HYB) ((unhide HV3).kept _ (.inr (.inl rfl))).2
        have HA : Hid (ScrW wa w.heap.size base (fun q => X q ∨ q = w.heap.size + 1) d1 (.slice (some ⟨gb3, gk3, none⟩) (d.down rowT).R gc3) rv3 (.slice hs ha hc) (.slice ba3 (d.down rowT).nb bc3)) := hide (by
          have h9 := hWY.head fa (d.down rowT).row 0 (d.down rowT).late (by rw [hwa]; exact set_blk2 hWY.box rfl)
          have e9 : d1 = { d.down rowT with col := 0 } := by rw [unhide HDE]; unfold SD.wrapL; rw [if_pos (.inr ⟨rfl, unhide HCC⟩)]
          rw [e9]
          exact h9)
        have HFA : Hid (FrV base X w wa) := hide (Fr.tr (Fr.tr (Fr.tr (Fr.of_ext (unhide HE1)) ((unhide HF3).mono (fun q hq => ⟨hq.1, fun hx => hq.2 (.inl hx)⟩))) ((unhide HYF).mono (fun q hq => ⟨by have := (unhide H).top; omega, fun hx => by have := ((unhide H).kept q hx).1; omega⟩))) (fa.mono (fun q hq => ⟨by have := (unhide H).top; omega, fun hx => by have := ((unhide H).kept q hx).1; omega⟩)))
        have HZA : Hid (wa.heap[w.heap.size + 1]? = some (.cells #[.int .i64 0, .int .i64 0, .slice none 0 0, .int .i64 0, .int .i64 0, .bool false, .slice none 0 0, .slice none 0 0] 26 (0, 0))) := hide (fa.kept ((unhide HYF).kept (unhide HSZ3) (by omega)) (by omega))
        have HWA := hide hwa
        have eR : (d.down rowT).R = d1.R := by rw [unhide HDE]; unfold SD.wrapL; rw [if_pos (.inr ⟨rfl, unhide HCC⟩)]
        have eN : (d.down rowT).nb = d1.nb := by rw [unhide HDE]; unfold SD.wrapL; rw [if_pos (.inr ⟨rfl, unhide HCC⟩)]
        rw [eR, eN] at HA
        clear fa hWY hwa HV3 HF3 HYF HYB HSB3 HSZ3 eR eN
        generalize rv3 = rva at *
        have ok1 := (unhide HD1).1
        have hs1 := size_bd ok1
        have hrow1 := ok1.row
        have hcol1 := ok1.col
        have hle1 := (unhide HD1).2
        obtain ⟨i0, ei0⟩ : ∃ i0 : Nat, d1.row = i0 := ⟨d1.row.toNat, by omega⟩
        obtain ⟨j0, ej0⟩ : ∃ j0 : Nat, d1.col = j0 := ⟨d1.col.toNat, by omega⟩
        have hR1 := ok1.R
        have hiR : i0 < d1.R := by omega
        have hCi := ok1.C i0 hiR
        have hjC : j0 + 2 ≤ d1.C i0 := by omega
        obtain ⟨g, cap, hg⟩ : ∃ g cap, rva i0 = .slice (some ⟨g, 0, none⟩) (d1.C i0) cap := by
          rcases ((unhide HA).row i0 hiR).form with ⟨_, e⟩ | ⟨g, cap, e⟩
          · omega
          · exact ⟨g, cap, e⟩
        obtain ⟨cur9, hgb9, hgA9⟩ : ∃ cur, wa.heap[gb3]? = some (.cells cur 81 (0, 0)) ∧ ∀ j, j < d1.R → cur[gk3 + j]? = some (rva j) := by
          obtain ⟨g', k', c', cur, e, _, hgb, _, _, _, hgA⟩ := id (unhide HA).grid
          simp only [Value.slice.injEq, Option.some.injEq, Addr.mk.injEq, and_true, true_and] at e
          obtain ⟨⟨rfl, rfl⟩, rfl⟩ := e
          exact ⟨cur, hgb, hgA⟩
        have r1 : wa.cell? ⟨gb3, gk3 + i0, none⟩ = some (.slice (some ⟨g, 0, none⟩) (d1.C i0) cap) := by rw [← hg]; exact cells_of hgb9 (gk3 + i0) _ (hgA9 i0 hiR)
        have a2 := cells_of (unhide HA).box 2 _ rfl
        have a3 : wa.cell? ⟨w.heap.size, 3, none⟩ = some (.int .i64 (i0 : Int)) := by rw [← ei0]; exact cells_of (unhide HA).box 3 _ rfl
        have a4 : wa.cell? ⟨w.heap.size, 4, none⟩ = some (.int .i64 (j0 : Int)) := by rw [← ej0]; exact cells_of (unhide HA).box 4 _ rfl
        have hrow9 : OwnC wa base (.slice (some ⟨g, 0, none⟩) (d1.C i0) cap) (d1.C i0) (d1.tx i0) (d1.hf i0) := by rw [← hg]; exact (unhide HA).row i0 hiR
        have HCl := hide (fun W9 (hW9 : Ext wa W9) => l2Clear_any (a := j0) (b := j0 + 2) W9 (d1.tx i0) (d1.hf i0) (Own2.ext hrow9 hW9) (by omega) hjC (by omega) (fun hh => (ok1.half i0 j0 hiR (by omega) hh).2.1))
        have HG := hide hg
        have HOK1 := hide ok1
        have HEi := hide ei0
        have HEj := hide ej0
        have wjw : IntKind.i64.wrap ((j0 : Int) + 2) = (j0 : Int) + 2 := by rw [IntKind.wrap_i64] <;> omega
        have b1 : (i0 : Int) < d1.rows := by omega
        have b2 : (i0 : Int) < (d1.R : Int) := by omega
        clear hg ok1 hgb9 hgA9 hrow9 ei0 ej0
        rw [unhide HWA] at a2 a3 a4 r1
        go_wp2_with fail
        rw [← unhide HWA] at a2 a3 a4 r1 ⊢
        refine ((unhide HCl) wa (Ext.refl _)).mono ?_
        rintro e wb ⟨rfl, ob, fb⟩
        have HB := hide ((unhide HA).clrAt i0 j0 (j0 + 2) g cap hiR (unhide HG) ob fb)
        have HFB := hide (Fr.tr (unhide HFA) (fb.mono (fun q hq => by subst hq; exact rowG (unhide HA) i0 hiR (unhide HG))))
        have HZB := hide (fb.kept (unhide HZA) (fun e => by have := ((unhide HA).kept _ (.inr rfl)).2 (.inr (.inl ⟨i0, hiR, by rw [unhide HG]; exact congrArg some e.symm⟩)); exact this))
        clear ob fb HCl HA HFA HZA a2 a3 a4 r1
        go_wp2_with fail
        have bj0 : (j0 : Int) < d1.cols := by omega
        have a4 : wb.cell? ⟨w.heap.size, 4, none⟩ = some (.int .i64 (j0 : Int)) := by rw [← unhide HEj]; exact cells_of (unhide HB).box 4 _ rfl
        first
          | (go_region_held3 (fun W => W.cell? ⟨w.heap.size, 4, none⟩ = some (.int .i64 (j0 : Int))) (first | exact a4 | exact e4 | exact p4) (first
              | (go_at_call 97
                 refine ((unhide HU) _).mono ?_
                 rintro e w2 ⟨rfl, E2⟩
                 have E3 : Ext wb w2 := (Ext.refl wb).drew.trans E2
                 have H2 := hide ((unhide HB).ext E3)
                 have HF2 := hide (Fr.tr (unhide HFB) (Fr.of_ext E3))
                 have HZ2 := hide (E3.kept (unhide HZB))
                 obtain ⟨g', cap', e', b1, b2, b3, b4⟩ := (unhide H2).cellOf i0 j0 hiR (by show j0 < d1.C i0; omega)
                 rw [unhide HG] at e'
                 simp only [Value.slice.injEq, Option.some.injEq, Addr.mk.injEq, and_true] at e'
                 rw [← e'.1] at b1 b2 b3 b4
                 clear e' E2 E3
                 have e4 : w2.cell? ⟨w.heap.size, 4, none⟩ = some (.int .i64 (j0 : Int)) := (by rw [← unhide HEj]; exact cells_of (unhide H2).box 4 _ rfl)
                 have hset := (unhide H2).setT1 i0 j0 g cap hiR (by show j0 < d1.C i0; omega) (unhide HG) (toBA (encR r))
                 have p4 : (w2.setCell ⟨g, j0 * 2, none⟩ (.string (toBA (encR r)))).cell? ⟨w.heap.size, 4, none⟩ = some (.int .i64 (j0 : Int)) := (by rw [← unhide HEj]; exact cells_of hset.1.box 4 _ rfl)
                 have HP1 := hide hset
                 clear hset))
             )
          | fail
        obtain ⟨W3, hW3⟩ : ∃ W3, W3 = w2.setCell ⟨g, j0 * 2, none⟩ (.string (toBA (encR r))) := ⟨_, rfl⟩
        rw [← hW3] at HP1 p4 ⊢
        have H3 := hide (unhide HP1).1
        have HF3 := hide (Fr.tr (unhide HF2) ((unhide HP1).2.mono (fun q hq => rowB (unhide H2) i0 hiR hq)))
        have HZ3 := hide ((unhide HP1).2.kept (unhide HZ2) (fun e => ((unhide H2).kept _ (.inr rfl)).2 (.inr (.inl ⟨i0, hiR, e⟩))))
        clear HP1 hW3 b1 b2 b3 b4 e4 H2 HF2 HZ2 HB HFB HZB a4 p4 HU
        have c4 : W3.cell? ⟨w.heap.size, 4, none⟩ = some (.int .i64 (j0 : Int)) := by rw [← unhide HEj]; exact cells_of (unhide H3).box 4 _ rfl
        have bj1 : (j0 : Int) + 1 < d1.cols := by omega
        have wj1 : IntKind.i64.wrap ((j0 : Int) + 1) = (j0 : Int) + 1 := by rw [IntKind.wrap_i64] <;> omega
        have hset := (unhide H3).setH1 i0 (j0 + 1) g cap hiR (by show j0 + 1 < d1.C i0; omega) (unhide HG)
        obtain ⟨g', cap', e', b1, b2, b3, b4⟩ := (unhide H3).cellOf i0 (j0 + 1) hiR (by show j0 + 1 < d1.C i0; omega)
        rw [unhide HG] at e'
        simp only [Value.slice.injEq, Option.some.injEq, Addr.mk.injEq, and_true] at e'
        rw [← e'.1] at b1 b2 b3 b4
        clear e'
        obtain ⟨W5, hW5⟩ : ∃ W5, W5 = W3.setCell ⟨g, (j0 + 1) * 2 + 1, none⟩ (.bool true) := ⟨_, rfl⟩
        rw [← hW5] at hset
        have H5 := hide hset.1
        have HF5 := hide (Fr.tr (unhide HF3) (hset.2.mono (fun q hq => rowB (unhide H3) i0 hiR hq)))
        have HZ5 := hide (hset.2.kept (unhide HZ3) (fun e => ((unhide H3).kept _ (.inr rfl)).2 (.inr (.inl ⟨i0, hiR, e⟩))))
        have HW5 := hide hW5
        clear hset hW5
        go_wp2_with (show wpList _ _ _ (List.cons ⟨some 73, _, _, _, _, _⟩ _) _ _; rw [← unhide HW5]; refine StopQ.intro ?_)
        show wpList _ _ _ _ _ _
        clear b1 b2 b3 b4 HW5 H3 HF3 HZ3 c4
        have wcm : IntKind.i64.wrap (d1.cols - 1) = d1.cols - 1 := by rw [IntKind.wrap_i64] <;> omega
        obtain ⟨d2, hd2⟩ : ∃ x, x = d1.put2 (toBA (encR r)) 2 := ⟨_, rfl⟩
        have HS2 : Hid (ScrW W5 w.heap.size base (fun q => X q ∨ q = w.heap.size + 1) d2 (.slice (some ⟨gb3, gk3, none⟩) d1.R gc3) rva (.slice hs ha hc) (.slice ba3 d1.nb bc3)) := hide (by
          have h9 := unhide H5
          rw [hd2]
          unfold SD.put2 SD.put1
          rw [if_pos rfl, unhide HEi, unhide HEj, Int.toNat_natCast, Int.toNat_natCast]
          exact h9)
        have hrest := put2_rest d1 (toBA (encR r)) 2
        rw [← hd2] at hrest
        have HRest := hide hrest
        have HD2 := hide hd2
        clear hrest hd2 H5
        have c0 : W5.cell? ⟨w.heap.size, 0, none⟩ = some (.int .i64 d1.cols) := by rw [← (unhide HRest).1]; exact cells_of (unhide HS2).box 0 _ rfl
        have c4 : W5.cell? ⟨w.heap.size, 4, none⟩ = some (.int .i64 (j0 : Int)) := by rw [← unhide HEj, ← (unhide HRest).2.1]; exact cells_of (unhide HS2).box 4 _ rfl
        have c5 := cells_of (unhide HS2).box 5 _ rfl
        have f4 : W5.frozen? ⟨w.heap.size, 4, none⟩ = false := Lib.frozen_of_heap (unhide HS2).box 4
        have f5 : W5.frozen? ⟨w.heap.size, 5, none⟩ = false := Lib.frozen_of_heap (unhide HS2).box 5
        by_cases hfull : d1.cols ≤ (j0 : Int) + 2
        · have HE3 : Hid (d.put rowT (toBA (encR r)) 2 = { d2 with col := d1.cols - 1, late := true }) := hide (by unfold SD.put; rw [← unhide HDE]; unfold SD.put3; rw [if_pos (by rw [unhide HEj]; exact hfull), ← unhide HD2])
          have fs : Fr (fun k => k = w.heap.size) W5 (((W5.setCell ⟨w.heap.size, 4, none⟩ (.int .i64 ((j0 : Int) + 2))).setCell ⟨w.heap.size, 4, none⟩ (.int .i64 (d1.cols - 1))).setCell ⟨w.heap.size, 5, none⟩ (.bool true)) := Fr.setCell (S := fun k => k = w.heap.size) (Fr.setCell (S := fun k => k = w.heap.size) (Fr.setCell (S := fun k => k = w.heap.size) (Fr.refl _ _) (a := ⟨w.heap.size, 4, none⟩) rfl _) (a := ⟨w.heap.size, 4, none⟩) rfl _) (a := ⟨w.heap.size, 5, none⟩) rfl _
          have hfin := (unhide HS2).head fs d2.row (d1.cols - 1) true (set_blk2 (set_blk2 (set_blk2 (unhide HS2).box rfl) rfl) rfl)
          obtain ⟨U, hU⟩ : ∃ U, U = ((W5.setCell ⟨w.heap.size, 4, none⟩ (.int .i64 ((j0 : Int) + 2))).setCell ⟨w.heap.size, 4, none⟩ (.int .i64 (d1.cols - 1))).setCell ⟨w.heap.size, 5, none⟩ (.bool true) := ⟨_, rfl⟩
          rw [← hU] at hfin fs
          have HUU := hide hU
          have HFin := hide hfin
          have HFs := hide fs
          have HSB := hide hfin.box
          have HSZ := hide (fs.kept (unhide HZ5) (by omega))
          clear fs hfin hU
          go_wp2_with (show wpList _ _ _ (List.cons ⟨some 88, _, _, _, _, _⟩ _) _ _; rw [← unhide HUU]; refine StopQ.intro ?_)
          show wpList _ _ _ _ _ _
          refine wpList_load_blk rfl 26 _ rfl w.heap.size rfl _ _ _ _ (unhide HSB) Tryz.underlying26 rfl infoScr8 ?_
          simp only [Act.put, List.setIfInBounds_toArray, List.set_cons_zero, List.set_cons_succ]
          refine wpList_store_blk rfl 26 _ _ rfl rfl (w.heap.size + 1) rfl _ _ _ rfl (unhide HSZ) infoScr8 rfl (by simp [Value.oneCell']) ?_
          intro X9 HX9 hX9
          have HXB := hide HX9
          have HXF := hide hX9
          clear HX9 hX9
          refine wpList_nil ?_
          rename_i hKK
          refine hKK _ _ ?_
          refine wp_ret ?_
          have v0 := cells_of (unhide HXB) 0 _ rfl
          have v1 := cells_of (unhide HXB) 1 _ rfl
          have v2 := cells_of (unhide HXB) 2 _ rfl
          have v3 := cells_of (unhide HXB) 3 _ rfl
          have v4 := cells_of (unhide HXB) 4 _ rfl
          have v5 := cells_of (unhide HXB) 5 _ rfl
          have v6 := cells_of (unhide HXB) 6 _ rfl
          have v7 := cells_of (unhide HXB) 7 _ rfl
          have hV9 := (unhide HFin).toV.fr (unhide HXF) (fun g9 hg9 e9 => ((unhide HFin).kept g9 (.inr e9)).2 hg9)
          have hF9 : FrV base X w X9 := Fr.tr (Fr.tr (unhide HF5) ((unhide HFs).mono (fun q hq => ⟨by have := (unhide H).top; omega, fun hx => by have := ((unhide H).kept q hx).1; omega⟩))) ((unhide HXF).mono (fun q hq => ⟨by have := (unhide H).top; omega, fun hx => by have := ((unhide H).kept q hx).1; omega⟩))
          refine bodyPost_ret (v := scrV (d.put rowT (toBA (encR r)) 2) (.slice (some ⟨gb3, gk3, none⟩) d1.R gc3) (.slice hs ha hc) (.slice ba3 d1.nb bc3)) (by rw [unhide HE3]; unfold scrV; simp [results, Tryz.results43, go_sem, v0, v1, v2, v3, v4, v5, v6, v7]) rfl ⟨_, rva, _, rfl, by rw [unhide HE3]; exact hV9.keep (fun q hq => .inl hq), hF9⟩
        · have HE3 : Hid (d.put rowT (toBA (encR r)) 2 = { d2 with col := (j0 : Int) + 2 }) := hide (by unfold SD.put; rw [← unhide HDE]; unfold SD.put3; rw [if_neg (by rw [unhide HEj]; exact hfull), ← unhide HD2, unhide HEj])
          have fs : Fr (fun k => k = w.heap.size) W5 (W5.setCell ⟨w.heap.size, 4, none⟩ (.int .i64 ((j0 : Int) + 2))) := Fr.setCell (S := fun k => k = w.heap.size) (Fr.refl _ _) (a := ⟨w.heap.size, 4, none⟩) rfl _
          have hfin := (unhide HS2).head fs d2.row ((j0 : Int) + 2) d2.late (set_blk2 (unhide HS2).box rfl)
          obtain ⟨U, hU⟩ : ∃ U, U = W5.setCell ⟨w.heap.size, 4, none⟩ (.int .i64 ((j0 : Int) + 2)) := ⟨_, rfl⟩
          rw [← hU] at hfin fs
          have HUU := hide hU
          have HFin := hide hfin
          have HFs := hide fs
          have HSB := hide hfin.box
          have HSZ := hide (fs.kept (unhide HZ5) (by omega))
          clear fs hfin hU
          go_wp2_with (show wpList _ _ _ (List.cons ⟨some 88, _, _, _, _, _⟩ _) _ _; rw [← unhide HUU]; refine StopQ.intro ?_)
          show wpList _ _ _ _ _ _
          refine wpList_load_blk rfl 26 _ rfl w.heap.size rfl _ _ _ _ (unhide HSB) Tryz.underlying26 rfl infoScr8 ?_
          simp only [Act.put, List.setIfInBounds_toArray, List.set_cons_zero, List.set_cons_succ]
          refine wpList_store_blk rfl 26 _ _ rfl rfl (w.heap.size + 1) rfl _ _ _ rfl (unhide HSZ) infoScr8 rfl (by simp [Value.oneCell']) ?_
          intro X9 HX9 hX9
          have HXB := hide HX9
          have HXF := hide hX9
          clear HX9 hX9
          refine wpList_nil ?_
          rename_i hKK
          refine hKK _ _ ?_
          refine wp_ret ?_
          have v0 := cells_of (unhide HXB) 0 _ rfl
          have v1 := cells_of (unhide HXB) 1 _ rfl
          have v2 := cells_of (unhide HXB) 2 _ rfl
          have v3 := cells_of (unhide HXB) 3 _ rfl
          have v4 := cells_of (unhide HXB) 4 _ rfl
          have v5 := cells_of (unhide HXB) 5 _ rfl
          have v6 := cells_of (unhide HXB) 6 _ rfl
          have v7 := cells_of (unhide HXB) 7 _ rfl
          have hV9 := (unhide HFin).toV.fr (unhide HXF) (fun g9 hg9 e9 => ((unhide HFin).kept g9 (.inr e9)).2 hg9)
          have hF9 : FrV base X w X9 := Fr.tr (Fr.tr (unhide HF5) ((unhide HFs).mono (fun q hq => ⟨by have := (unhide H).top; omega, fun hx => by have := ((unhide H).kept q hx).1; omega⟩))) ((unhide HXF).mono (fun q hq => ⟨by have := (unhide H).top; omega, fun hx => by have := ((unhide H).kept q hx).1; omega⟩))
          refine bodyPost_ret (v := scrV (d.put rowT (toBA (encR r)) 2) (.slice (some ⟨gb3, gk3, none⟩) d1.R gc3) (.slice hs ha hc) (.slice ba3 d1.nb bc3)) (by rw [unhide HE3]; unfold scrV; simp [results, Tryz.results43, go_sem, v0, v1, v2, v3, v4, v5, v6, v7]) rfl ⟨_, rva, _, rfl, by rw [unhide HE3]; exact hV9.keep (fun q hq => .inl hq), hF9⟩
      · have e9 : d1 = d := by rw [unhide HDE]; unfold SD.wrapL; rw [if_neg (by rw [hl]; simp; omega)]
        have HA : Hid (ScrW w1 w.heap.size base (fun q => X q ∨ q = w.heap.size + 1) d1 (.slice (some ⟨gb, gk, none⟩) d1.R gc) rv (.slice hs ha hc) (.slice ba d1.nb bc)) := hide (by
          rw [e9]
          exact (((unhide H).ext (unhide HE1)).keepZ (Y := (fun q => X q ∨ q = w.heap.size + 1)) (unhide H) (unhide HSB) (unhide HSZ) (fun q hq => hq.imp id .inr)).toW (unhide HSB) (fun hw9 => by have := ((unhide H).foot hw9).2; omega))
        have HFA : Hid (FrV base X w w1) := hide (Fr.of_ext (unhide HE1))
        have HZA := HSZ
        rw [← e9] at c0
        clear c1 c2 c3 c4 c6 c7 HDn HSB HSZ
        have ok1 := (unhide HD1).1
        have hs1 := size_bd ok1
        have hrow1 := ok1.row
        have hcol1 := ok1.col
        have hle1 := (unhide HD1).2
        obtain ⟨i0, ei0⟩ : ∃ i0 : Nat, d1.row = i0 := ⟨d1.row.toNat, by omega⟩
        obtain ⟨j0, ej0⟩ : ∃ j0 : Nat, d1.col = j0 := ⟨d1.col.toNat, by omega⟩
        have hR1 := ok1.R
        have hiR : i0 < d1.R := by omega
        have hCi := ok1.C i0 hiR
        have hjC : j0 + 2 ≤ d1.C i0 := by omega
        obtain ⟨g, cap, hg⟩ : ∃ g cap, rv i0 = .slice (some ⟨g, 0, none⟩) (d1.C i0) cap := by
          rcases ((unhide HA).row i0 hiR).form with ⟨_, e⟩ | ⟨g, cap, e⟩
          · omega
          · exact ⟨g, cap, e⟩
        obtain ⟨cur9, hgb9, hgA9⟩ : ∃ cur, w1.heap[gb]? = some (.cells cur 81 (0, 0)) ∧ ∀ j, j < d1.R → cur[gk + j]? = some (rv j) := by
          obtain ⟨g', k', c', cur, e, _, hgb, _, _, _, hgA⟩ := id (unhide HA).grid
          simp only [Value.slice.injEq, Option.some.injEq, Addr.mk.injEq, and_true, true_and] at e
          obtain ⟨⟨rfl, rfl⟩, rfl⟩ := e
          exact ⟨cur, hgb, hgA⟩
        have r1 : w1.cell? ⟨gb, gk + i0, none⟩ = some (.slice (some ⟨g, 0, none⟩) (d1.C i0) cap) := by rw [← hg]; exact cells_of hgb9 (gk + i0) _ (hgA9 i0 hiR)
        have a2 := cells_of (unhide HA).box 2 _ rfl
        have a3 : w1.cell? ⟨w.heap.size, 3, none⟩ = some (.int .i64 (i0 : Int)) := by rw [← ei0]; exact cells_of (unhide HA).box 3 _ rfl
        have a4 : w1.cell? ⟨w.heap.size, 4, none⟩ = some (.int .i64 (j0 : Int)) := by rw [← ej0]; exact cells_of (unhide HA).box 4 _ rfl
        have hrow9 : OwnC w1 base (.slice (some ⟨g, 0, none⟩) (d1.C i0) cap) (d1.C i0) (d1.tx i0) (d1.hf i0) := by rw [← hg]; exact (unhide HA).row i0 hiR
        have HCl := hide (fun W9 (hW9 : Ext w1 W9) => l2Clear_any (a := j0) (b := j0 + 2) W9 (d1.tx i0) (d1.hf i0) (Own2.ext hrow9 hW9) (by omega) hjC (by omega) (fun hh => (ok1.half i0 j0 hiR (by omega) hh).2.1))
        have HG := hide hg
        have HOK1 := hide ok1
        have HEi := hide ei0
        have HEj := hide ej0
        have wjw : IntKind.i64.wrap ((j0 : Int) + 2) = (j0 : Int) + 2 := by rw [IntKind.wrap_i64] <;> omega
        have b1 : (i0 : Int) < d1.rows := by omega
        have b2 : (i0 : Int) < (d1.R : Int) := by omega
        clear hg ok1 hgb9 hgA9 hrow9 ei0 ej0
        have wc1 : IntKind.i64.wrap (d1.cols - 1) = d1.cols - 1 := by rw [IntKind.wrap_i64] <;> omega
        have hcj : ¬ (j0 : Int) = d1.cols - 1 := by omega
        have hcb : ((j0 : Int) == d1.cols - 1) = false := by simp [hcj]
        clear e9
        go_wp2_with fail
        refine ((unhide HCl) w1 (Ext.refl _)).mono ?_
        rintro e wb ⟨rfl, ob, fb⟩
        have HB := hide ((unhide HA).clrAt i0 j0 (j0 + 2) g cap hiR (unhide HG) ob fb)
        have HFB := hide (Fr.tr (unhide HFA) (fb.mono (fun q hq => by subst hq; exact rowG (unhide HA) i0 hiR (unhide HG))))
        have HZB := hide (fb.kept (unhide HZA) (fun e => by have := ((unhide HA).kept _ (.inr rfl)).2 (.inr (.inl ⟨i0, hiR, by rw [unhide HG]; exact congrArg some e.symm⟩)); exact this))
        clear ob fb HCl HA HFA HZA a2 a3 a4 r1
        go_wp2_with fail
        have bj0 : (j0 : Int) < d1.cols := by omega
        have a4 : wb.cell? ⟨w.heap.size, 4, none⟩ = some (.int .i64 (j0 : Int)) := by rw [← unhide HEj]; exact cells_of (unhide HB).box 4 _ rfl
        first
          | (go_region_held3 (fun W => W.cell? ⟨w.heap.size, 4, none⟩ = some (.int .i64 (j0 : Int))) (first | exact a4 | exact e4 | exact p4) (first
              | (go_at_call 97
                 refine ((unhide HU) _).mono ?_
                 rintro e w2 ⟨rfl, E2⟩
                 have E3 : Ext wb w2 := (Ext.refl wb).drew.trans E2
                 have H2 := hide ((unhide HB).ext E3)
                 have HF2 := hide (Fr.tr (unhide HFB) (Fr.of_ext E3))
                 have HZ2 := hide (E3.kept (unhide HZB))
                 obtain ⟨g', cap', e', b1, b2, b3, b4⟩ := (unhide H2).cellOf i0 j0 hiR (by show j0 < d1.C i0; omega)
                 rw [unhide HG] at e'
                 simp only [Value.slice.injEq, Option.some.injEq, Addr.mk.injEq, and_true] at e'
                 rw [← e'.1] at b1 b2 b3 b4
                 clear e' E2 E3
                 have e4 : w2.cell? ⟨w.heap.size, 4, none⟩ = some (.int .i64 (j0 : Int)) := (by rw [← unhide HEj]; exact cells_of (unhide H2).box 4 _ rfl)
                 have hset := (unhide H2).setT1 i0 j0 g cap hiR (by show j0 < d1.C i0; omega) (unhide HG) (toBA (encR r))
                 have p4 : (w2.setCell ⟨g, j0 * 2, none⟩ (.string (toBA (encR r)))).cell? ⟨w.heap.size, 4, none⟩ = some (.int .i64 (j0 : Int)) := (by rw [← unhide HEj]; exact cells_of hset.1.box 4 _ rfl)
                 have HP1 := hide hset
                 clear hset))
             )
          | fail
        obtain ⟨W3, hW3⟩ : ∃ W3, W3 = w2.setCell ⟨g, j0 * 2, none⟩ (.string (toBA (encR r))) := ⟨_, rfl⟩
        rw [← hW3] at HP1 p4 ⊢
        have H3 := hide (unhide HP1).1
        have HF3 := hide (Fr.tr (unhide HF2) ((unhide HP1).2.mono (fun q hq => rowB (unhide H2) i0 hiR hq)))
        have HZ3 := hide ((unhide HP1).2.kept (unhide HZ2) (fun e => ((unhide H2).kept _ (.inr rfl)).2 (.inr (.inl ⟨i0, hiR, e⟩))))
        clear HP1 hW3 b1 b2 b3 b4 e4 H2 HF2 HZ2 HB HFB HZB a4 p4 HU
        have c4 : W3.cell? ⟨w.heap.size, 4, none⟩ = some (.int .i64 (j0 : Int)) := by rw [← unhide HEj]; exact cells_of (unhide H3).box 4 _ rfl
        have bj1 : (j0 : Int) + 1 < d1.cols := by omega
        have wj1 : IntKind.i64.wrap ((j0 : Int) + 1) = (j0 : Int) + 1 := by rw [IntKind.wrap_i64] <;> omega
        have hset := (unhide H3).setH1 i0 (j0 + 1) g cap hiR (by show j0 + 1 < d1.C i0; omega) (unhide HG)
        obtain ⟨g', cap', e', b1, b2, b3, b4⟩ := (unhide H3).cellOf i0 (j0 + 1) hiR (by show j0 + 1 < d1.C i0; omega)
        rw [unhide HG] at e'
        simp only [Value.slice.injEq, Option.some.injEq, Addr.mk.injEq, and_true] at e'
        rw [← e'.1] at b1 b2 b3 b4
        clear e'
        obtain ⟨W5, hW5⟩ : ∃ W5, W5 = W3.setCell ⟨g, (j0 + 1) * 2 + 1, none⟩ (.bool true) := ⟨_, rfl⟩
        rw [← hW5] at hset
        have H5 := hide hset.1
        have HF5 := hide (Fr.tr (unhide HF3) (hset.2.mono (fun q hq => rowB (unhide H3) i0 hiR hq)))
        have HZ5 := hide (hset.2.kept (unhide HZ3) (fun e => ((unhide H3).kept _ (.inr rfl)).2 (.inr (.inl ⟨i0, hiR, e⟩))))
        have HW5 := hide hW5
        clear hset hW5
        go_wp2_with (show wpList _ _ _ (List.cons ⟨some 73, _, _, _, _, _⟩ _) _ _; rw [← unhide HW5]; refine StopQ.intro ?_)
        show wpList _ _ _ _ _ _
        clear b1 b2 b3 b4 HW5 H3 HF3 HZ3 c4
        have wcm : IntKind.i64.wrap (d1.cols - 1) = d1.cols - 1 := by rw [IntKind.wrap_i64] <;> omega
        obtain ⟨d2, hd2⟩ : ∃ x, x = d1.put2 (toBA (encR r)) 2 := ⟨_, rfl⟩
        have HS2 : Hid (ScrW W5 w.heap.size base (fun q => X q ∨ q = w.heap.size + 1) d2 (.slice (some ⟨gb, gk, none⟩) d1.R gc) rv (.slice hs ha hc) (.slice ba d1.nb bc)) := hide (by
          have h9 := unhide H5
          rw [hd2]
          unfold SD.put2 SD.put1
          rw [if_pos rfl, unhide HEi, unhide HEj, Int.toNat_natCast, Int.toNat_natCast]
          exact h9)
        have hrest := put2_rest d1 (toBA (encR r)) 2
        rw [← hd2] at hrest
        have HRest := hide hrest
        have HD2 := hide hd2
        clear hrest hd2 H5
        have c0 : W5.cell? ⟨w.heap.size, 0, none⟩ = some (.int .i64 d1.cols) := by rw [← (unhide HRest).1]; exact cells_of (unhide HS2).box 0 _ rfl
        have c4 : W5.cell? ⟨w.heap.size, 4, none⟩ = some (.int .i64 (j0 : Int)) := by rw [← unhide HEj, ← (unhide HRest).2.1]; exact cells_of (unhide HS2).box 4 _ rfl
        have c5 := cells_of (unhide HS2).box 5 _ rfl
        have f4 : W5.frozen? ⟨w.heap.size, 4, none⟩ = false := Lib.frozen_of_heap (unhide HS2).box 4
        have f5 : W5.frozen? ⟨w.heap.size, 5, none⟩ = false := Lib.frozen_of_heap (unhide HS2).box 5
        by_cases hfull : d1.cols ≤ (j0 : Int) + 2
        · have HE3 : Hid (d.put rowT (toBA (encR r)) 2 = { d2 with col := d1.cols - 1, late := true }) := hide (by unfold SD.put; rw [← unhide HDE]; unfold SD.put3; rw [if_pos (by rw [unhide HEj]; exact hfull), ← unhide HD2])
          have fs : Fr (fun k => k = w.heap.size) W5 (((W5.setCell ⟨w.heap.size, 4, none⟩ (.int .i64 ((j0 : Int) + 2))).setCell ⟨w.heap.size, 4, none⟩ (.int .i64 (d1.cols - 1))).setCell ⟨w.heap.size, 5, none⟩ (.bool true)) := Fr.setCell (S := fun k => k = w.heap.size) (Fr.setCell (S := fun k => k = w.heap.size) (Fr.setCell (S := fun k => k = w.heap.size) (Fr.refl _ _) (a := ⟨w.heap.size, 4, none⟩) rfl _) (a := ⟨w.heap.size, 4, none⟩) rfl _) (a := ⟨w.heap.size, 5, none⟩) rfl _
          have hfin := (unhide HS2).head fs d2.row (d1.cols - 1) true (set_blk2 (set_blk2 (set_blk2 (unhide HS2).box rfl) rfl) rfl)
          obtain ⟨U, hU⟩ : ∃ U, U = ((W5.setCell ⟨w.heap.size, 4, none⟩ (.int .i64 ((j0 : Int) + 2))).setCell ⟨w.heap.size, 4, none⟩ (.int .i64 (d1.cols - 1))).setCell ⟨w.heap.size, 5, none⟩ (.bool true) := ⟨_, rfl⟩
          rw [← hU] at hfin fs
          have HUU := hide hU
          have HFin := hide hfin
          have HFs := hide fs
          have HSB := hide hfin.box
          have HSZ := hide (fs.kept (unhide HZ5) (by omega))
          clear fs hfin hU
          go_wp2_with (show wpList _ _ _ (List.cons ⟨some 88, _, _, _, _, _⟩ _) _ _; rw [← unhide HUU]; refine StopQ.intro ?_)
          show wpList _ _ _ _ _ _
          refine wpList_load_blk rfl 26 _ rfl w.heap.size rfl _ _ _ _ (unhide HSB) Tryz.underlying26 rfl infoScr8 ?_
          simp only [Act.put, List.setIfInBounds_toArray, List.set_cons_zero, List.set_cons_succ]
          refine wpList_store_blk rfl 26 _ _ rfl rfl (w.heap.size + 1) rfl _ _ _ rfl (unhide HSZ) infoScr8 rfl (by simp [Value.oneCell']) ?_
          intro X9 HX9 hX9
          have HXB := hide HX9
          have HXF := hide hX9
          clear HX9 hX9
          refine wpList_nil ?_
          rename_i hKK
          refine hKK _ _ ?_
          refine wp_ret ?_
          have v0 := cells_of (unhide HXB) 0 _ rfl
          have v1 := cells_of (unhide HXB) 1 _ rfl
          have v2 := cells_of (unhide HXB) 2 _ rfl
          have v3 := cells_of (unhide HXB) 3 _ rfl
          have v4 := cells_of (unhide HXB) 4 _ rfl
          have v5 := cells_of (unhide HXB) 5 _ rfl
          have v6 := cells_of (unhide HXB) 6 _ rfl
          have v7 := cells_of (unhide HXB) 7 _ rfl
          have hV9 := (unhide HFin).toV.fr (unhide HXF) (fun g9 hg9 e9 => ((unhide HFin).kept g9 (.inr e9)).2 hg9)
          have hF9 : FrV base X w X9 := Fr.tr (Fr.tr (unhide HF5) ((unhide HFs).mono (fun q hq => ⟨by have := (unhide H).top; omega, fun hx => by have := ((unhide H).kept q hx).1; omega⟩))) ((unhide HXF).mono (fun q hq => ⟨by have := (unhide H).top; omega, fun hx => by have := ((unhide H).kept q hx).1; omega⟩))
          refine bodyPost_ret (v := scrV (d.put rowT (toBA (encR r)) 2) (.slice (some ⟨gb, gk, none⟩) d1.R gc) (.slice hs ha hc) (.slice ba d1.nb bc)) (by rw [unhide HE3]; unfold scrV; simp [results, Tryz.results43, go_sem, v0, v1, v2, v3, v4, v5, v6, v7]) rfl ⟨_, rv, _, rfl, by rw [unhide HE3]; exact hV9.keep (fun q hq => .inl hq), hF9⟩
        · have HE3 : Hid (d.put rowT (toBA (encR r)) 2 = { d2 with col := (j0 : Int) + 2 }) := hide (by unfold SD.put; rw [← unhide HDE]; unfold SD.put3; rw [if_neg (by rw [unhide HEj]; exact hfull), ← unhide HD2, unhide HEj])
          have fs : Fr (fun k => k = w.heap.size) W5 (W5.setCell ⟨w.heap.size, 4, none⟩ (.int .i64 ((j0 : Int) + 2))) := Fr.setCell (S := fun k => k = w.heap.size) (Fr.refl _ _) (a := ⟨w.heap.size, 4, none⟩) rfl _
          have hfin := (unhide HS2).head fs d2.row ((j0 : Int) + 2) d2.late (set_blk2 (unhide HS2).box rfl)
          obtain ⟨U, hU⟩ : ∃ U, U = W5.setCell ⟨w.heap.size, 4, none⟩ (.int .i64 ((j0 : Int) + 2)) := ⟨_, rfl⟩
          rw [← hU] at hfin fs
          have HUU := hide hU
          have HFin := hide hfin
          have HFs := hide fs
          have HSB := hide hfin.box
          have HSZ := hide (fs.kept (unhide HZ5) (by omega))
          clear fs hfin hU
          go_wp2_with (show wpList _ _ _ (List.cons ⟨some 88, _, _, _, _, _⟩ _) _ _; rw [← unhide HUU]; refine StopQ.intro ?_)
          show wpList _ _ _ _ _ _
          refine wpList_load_blk rfl 26 _ rfl w.heap.size rfl _ _ _ _ (unhide HSB) Tryz.underlying26 rfl infoScr8 ?_
          simp only [Act.put, List.setIfInBounds_toArray, List.set_cons_zero, List.set_cons_succ]
          refine wpList_store_blk rfl 26 _ _ rfl rfl (w.heap.size + 1) rfl _ _ _ rfl (unhide HSZ) infoScr8 rfl (by simp [Value.oneCell']) ?_
          intro X9 HX9 hX9
          have HXB := hide HX9
          have HXF := hide hX9
          clear HX9 hX9
          refine wpList_nil ?_
          rename_i hKK
          refine hKK _ _ ?_
          refine wp_ret ?_
          have v0 := cells_of (unhide HXB) 0 _ rfl
          have v1 := cells_of (unhide HXB) 1 _ rfl
          have v2 := cells_of (unhide HXB) 2 _ rfl
          have v3 := cells_of (unhide HXB) 3 _ rfl
          have v4 := cells_of (unhide HXB) 4 _ rfl
          have v5 := cells_of (unhide HXB) 5 _ rfl
          have v6 := cells_of (unhide HXB) 6 _ rfl
          have v7 := cells_of (unhide HXB) 7 _ rfl
          have hV9 := (unhide HFin).toV.fr (unhide HXF) (fun g9 hg9 e9 => ((unhide HFin).kept g9 (.inr e9)).2 hg9)
          have hF9 : FrV base X w X9 := Fr.tr (Fr.tr (unhide HF5) ((unhide HFs).mono (fun q hq => ⟨by have := (unhide H).top; omega, fun hx => by have := ((unhide H).kept q hx).1; omega⟩))) ((unhide HXF).mono (fun q hq => ⟨by have := (unhide H).top; omega, fun hx => by have := ((unhide H).kept q hx).1; omega⟩))
          refine bodyPost_ret (v := scrV (d.put rowT (toBA (encR r)) 2) (.slice (some ⟨gb, gk, none⟩) d1.R gc) (.slice hs ha hc) (.slice ba d1.nb bc)) (by rw [unhide HE3]; unfold scrV; simp [results, Tryz.results43, go_sem, v0, v1, v2, v3, v4, v5, v6, v7]) rfl ⟨_, rv, _, rfl, by rw [unhide HE3]; exact hV9.keep (fun q hq => .inl hq), hF9⟩
end
end Go.Proofs.YtinfdhbnljnifaaGreatDoor
