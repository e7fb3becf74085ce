import Derived.Test.YtinfdhbnljnifaaGreatDoorFdY
namespace Go.Proofs.YtinfdhbnljnifaaGreatDoor
open Go.RowKit
section
variable {F base : Nat} {X : Nat → Prop} {d : SD} {gv : Value} {rv : Nat → Value} {hv bv : Value}
set_option maxRecDepth 10000 in
set_option maxHeartbeats 16000000 in
theorem put_2 (w : World) (h : ScrE w F base X d hv) (hk : DownOk d) (r : Int) :
    Calls Tryz.prog 106 #[.pointer (some ⟨F, 0, none⟩), .int .i32 r, .int .i64 2] w fun e w' => e = .returned (.tuple #[]) ∧ ScrE w' F base X (d.put rowT (toBA (encR r)) 2) hv ∧ FrW F base X w w' := by
  have hs := size_bd hk.1
  obtain ⟨gv, rv, bv, h⟩ := h
  have c0 : w.cell? ⟨F, 0, none⟩ = some (.int .i64 d.cols) := cells_of h.box 0 _ rfl
  have c4 : w.cell? ⟨F, 4, none⟩ = some (.int .i64 d.col) := cells_of h.box 4 _ rfl
  have c5 : w.cell? ⟨F, 5, none⟩ = some (.bool d.late) := cells_of h.box 5 _ rfl
  have wc : IntKind.i64.wrap (d.cols - 1) = d.cols - 1 := by rw [IntKind.wrap_i64] <;> omega
  obtain ⟨d1, hd1⟩ : ∃ x, x = d.wrapL rowT 2 := ⟨_, rfl⟩
  have hok1 := ok_wrapL rowT hk.1 2 (by omega)
  rw [← hd1] at hok1
  have HD1 : Hid (OkP d1 ∧ d1.col + 2 ≤ d1.cols) := hide ⟨hok1.1, hok1.2.2⟩
  have HDE := hide hd1
  have H := hide h
  have HK := hide hk
  clear h hk hok1
  cases hl : d.late with
  | true =>
    rw [hl] at c5
    go_enter Tryz.func106, Tryz.ntmps106
    go_wp2_with fail
    go_region
    have HR := hide (carriageReturn_e w.drew ⟨_, _, _, (unhide H).ext (Ext.refl w).drew⟩)
    clear c0 c4 c5 H
    go_wp2_with fail
    refine (unhide HR).mono ?_
    rintro e w5 ⟨rfl, h5, f5⟩
    have HL := hide (lineFeed_any w5 h5 (unhide HK).col0)
    rw [down_col0] at HL
    have HF5 := hide f5
    clear h5 f5 HR
    go_wp2_with fail
    refine (unhide HL).mono ?_
    rintro e wa ⟨rfl, ⟨gva, rva, bva, ha⟩, fa⟩
    have HFA := hide (Fr.tr (Fr.of_ext (Ext.refl w).drew) (Fr.tr (unhide HF5) fa))
    have HA : Hid (ScrW wa F base X d1 gva rva hv bva) := hide (by rw [hd1]; unfold SD.wrapL; rw [if_pos (.inl hl)]; exact ha)
    clear ha fa HL HF5 hd1
    have ok1 := (unhide HD1).1
    have hs1 := size_bd ok1
    have hrow1 := ok1.row
    have hcol1 := ok1.col
    have hle1 := (unhide HD1).2
    obtain ⟨i0, ei0⟩ : ∃ i0 : Nat, d1.row = i0 := ⟨d1.row.toNat, by omega⟩
    obtain ⟨j0, ej0⟩ : ∃ j0 : Nat, d1.col = j0 := ⟨d1.col.toNat, by omega⟩
    have hiR : i0 < d1.R := by have := ok1.R; omega
    have hCi := ok1.C i0 hiR
    have hjC : j0 + 2 ≤ d1.C i0 := by omega
    have HLoop : Hid (ScrW wa F base X (d1.clrTo i0 j0 (j0 + 0)) gva rva hv bva) := hide (by unfold SD.clrTo; rw [if_pos (by omega)]; exact unhide HA)
    obtain ⟨g, cap, hg, _, _, _, _⟩ := (unhide HA).cellOf i0 j0 hiR (by omega)
    have HG := hide hg
    have HOK1 := hide ok1
    have hC200 : d1.C i0 ≤ 200 := by omega
    clear hg ok1
    go_wp2_with fail
    go_loopw [32] (fun i wr => ∃ k : Nat, k ≤ 2 ∧ i = .int .i64 k ∧ Hid (ScrW wr F base X (d1.clrTo i0 j0 (j0 + k)) gva rva hv bva) ∧ Hid (FrW F base X w wr)) (fun i _ => 2 - (intOf i).toNat)
    case atStart => exact ⟨0, Nat.zero_le _, rfl, HLoop, HFA⟩
    case round =>
      clear HLoop HFA
      obtain ⟨k, hk1, rfl, HK, HF⟩ := hrel
      obtain ⟨q1, q2, q3⟩ := clrTo_rest d1 i0 j0 (j0 + k)
      have c3 : wr.cell? ⟨F, 3, none⟩ = some (.int .i64 (i0 : Int)) := by have h9 := cells_of (unhide HK).box 3 _ rfl; rw [← ei0, ← (clrTo_pos d1 i0 j0 (j0 + k)).1]; exact h9
      have c4 : wr.cell? ⟨F, 4, none⟩ = some (.int .i64 (j0 : Int)) := by have h9 := cells_of (unhide HK).box 4 _ rfl; rw [← ej0, ← (clrTo_pos d1 i0 j0 (j0 + k)).2]; exact h9
      by_cases hlt : k < 2
      · have b1 : (k : Int) < 2 := by omega
        have wjk : IntKind.i64.wrap ((j0 : Int) + (k : Int)) = (j0 : Int) + (k : Int) := by rw [IntKind.wrap_i64] <;> omega
        have hcall : ∀ W9, Ext wr W9 → Calls Tryz.prog 164 #[.pointer (some ⟨F, 0, none⟩), .int .i64 (i0 : Int), .int .i64 ((j0 : Int) + (k : Int))] W9 fun e w' => e = .returned (.tuple #[]) ∧ ScrW w' F base X (d1.clrTo i0 j0 (j0 + k + 1)) gva rva hv bva ∧ Fr (fun q => (rva i0).ownBlock = some q) W9 w' := fun W9 hW9 => by
          have h9 := blank_any W9 ((unhide HK).ext hW9) i0 (j0 + k) (by rw [q1]; exact hiR) (by rw [q2]; omega) (by rw [q2, q3]; exact hCi) (fun hh => by
            rcases Nat.eq_zero_or_pos k with e | e
            · subst e
              unfold SD.clrTo at hh
              rw [if_pos (by omega)] at hh
              exact ((unhide HOK1).half i0 (j0 + 0) hiR (by omega) hh).2.1
            · omega) (by rw [q2]; exact hC200)
          rw [clrTo_snoc d1 i0 j0 (j0 + k) (by omega) (by omega), show ((j0 + k : Nat) : Int) = (j0 : Int) + (k : Int) by omega] at h9
          exact h9
        have HCall := hide hcall
        clear hcall q1 q2 q3
        go_wp2_with fail
        go_region_held3 (fun W => W.cell? ⟨F, 3, none⟩ = some (.int .i64 (i0 : Int)) ∧ W.cell? ⟨F, 4, none⟩ = some (.int .i64 (j0 : Int))) (first | exact ⟨c3, c4⟩ | exact ⟨e3, e4⟩) (first
          | (go_at_call 164
             refine ((unhide HCall) _ (Ext.refl wr).drew).mono ?_
             rintro e w1 ⟨rfl, h1, f1⟩
             have e3 : w1.cell? ⟨F, 3, none⟩ = some (.int .i64 (i0 : Int)) := (by have h9 := cells_of h1.box 3 _ rfl; rw [← ei0, ← (clrTo_pos d1 i0 j0 (j0 + k + 1)).1]; exact h9)
             have e4 : w1.cell? ⟨F, 4, none⟩ = some (.int .i64 (j0 : Int)) := (by have h9 := cells_of h1.box 4 _ rfl; rw [← ej0, ← (clrTo_pos d1 i0 j0 (j0 + k + 1)).2]; exact h9)
             have HS2 := hide h1
             have HF2 := hide (Fr.tr (unhide HF) (Fr.tr (Fr.of_ext (Ext.refl wr).drew) (((unhide HK).ext (Ext.refl wr).drew).rowFr i0 (by rw [(clrTo_rest d1 i0 j0 (j0 + k)).1]; exact hiR) f1)))
             clear h1 f1))
        go_wp2
        go_roundw
        case rel => exact ⟨k + 1, by omega, by go_num, HS2, HF2⟩
        case measure => simp [intOf]; omega
      · obtain rfl : k = 2 := by omega
        have hb : ¬ ((2 : Nat) : Int) < 2 := by omega
        clear q1 q2 q3
        have HB : Hid (ScrW wr F base X (d1.clr i0 j0 (j0 + 2)) gva rva hv bva) := hide (by have := unhide HK; unfold SD.clrTo at this; rw [if_neg (by omega)] at this; exact this)
        clear HK
        have HCn := hide (fun W9 (hW9 : Ext wr W9) => cell_any W9 ((unhide HB).ext hW9) i0 j0 g cap hiR (by show j0 < d1.C i0; omega) (unhide HG))
        go_wp2_with fail
        first
          | (go_region_held3 (fun W => W.cell? ⟨F, 3, none⟩ = some (.int .i64 (i0 : Int)) ∧ W.cell? ⟨F, 4, none⟩ = some (.int .i64 (j0 : Int))) (first | exact ⟨c3, c4⟩ | exact ⟨e3, e4⟩ | exact ⟨p3, p4⟩) (first
              | (go_at_call 163
                 refine ((unhide HCn) _ (Ext.refl wr).drew).mono ?_
                 rintro e w2 ⟨rfl, E2⟩
                 have H2 := hide ((unhide HB).ext ((Ext.refl wr).drew.trans E2))
                 have HF2 := hide (Fr.tr (unhide HF) (Fr.of_ext ((Ext.refl wr).drew.trans E2)))
                 obtain ⟨g', cap', e', b1, b2, b3, b4⟩ := (unhide H2).cellOf i0 j0 hiR (by show j0 < d1.C i0; omega)
                 rw [unhide HG] at e'
                 simp only [Value.slice.injEq, Option.some.injEq, Addr.mk.injEq, and_true] at e'
                 rw [← e'.1] at b1 b2 b3 b4
                 clear e' E2
                 have e3 : w2.cell? ⟨F, 3, none⟩ = some (.int .i64 (i0 : Int)) := (by rw [← ei0]; exact cells_of (unhide H2).box 3 _ rfl)
                 have e4 : w2.cell? ⟨F, 4, none⟩ = some (.int .i64 (j0 : Int)) := (by rw [← ej0]; exact cells_of (unhide H2).box 4 _ rfl)
                 have hset := (unhide H2).setT1 i0 j0 g cap hiR (by show j0 < d1.C i0; omega) (unhide HG) (Utf8.encode r)
                 have p3 : (w2.setCell ⟨g, j0 * 2, none⟩ (.string (Utf8.encode r))).cell? ⟨F, 3, none⟩ = some (.int .i64 (i0 : Int)) := (by rw [← ei0]; exact cells_of hset.1.box 3 _ rfl)
                 have p4 : (w2.setCell ⟨g, j0 * 2, none⟩ (.string (Utf8.encode r))).cell? ⟨F, 4, none⟩ = some (.int .i64 (j0 : Int)) := (by rw [← ej0]; exact cells_of hset.1.box 4 _ rfl)
                 have HP1 := hide hset
                 clear hset))
             )
          | fail
        obtain ⟨W3, hW3⟩ : ∃ W3, W3 = w2.setCell ⟨g, j0 * 2, none⟩ (.string (Utf8.encode r)) := ⟨_, rfl⟩
        rw [← hW3] at HP1 p3 p4 ⊢
        have H3 := hide (unhide HP1).1
        have HF3 := hide (Fr.tr (unhide HF2) ((unhide H2).rowFr i0 hiR (unhide HP1).2))
        clear HP1 hW3 b1 b2 b3 b4 e3 e4 H2 HF2 HCn HB HF c3 c4 p3 p4
        have c0 : W3.cell? ⟨F, 0, none⟩ = some (.int .i64 d1.cols) := cells_of (unhide H3).box 0 _ rfl
        have c4 : W3.cell? ⟨F, 4, none⟩ = some (.int .i64 (j0 : Int)) := by rw [← ej0]; exact cells_of (unhide H3).box 4 _ rfl
        have f4 : W3.frozen? ⟨F, 4, none⟩ = false := Lib.frozen_of_heap (unhide H3).box 4
        have c3 : W3.cell? ⟨F, 3, none⟩ = some (.int .i64 (i0 : Int)) := by rw [← ei0]; exact cells_of (unhide H3).box 3 _ rfl
        have wj1 : IntKind.i64.wrap ((j0 : Int) + 1) = (j0 : Int) + 1 := by rw [IntKind.wrap_i64] <;> omega
        have hcm : ∀ W9, Ext W3 W9 → Calls Tryz.prog 163 #[.pointer (some ⟨F, 0, none⟩), .int .i64 (i0 : Int), .int .i64 ((j0 : Int) + 1)] W9 fun e w' => e = .returned (.pointer (some ⟨g, (j0 + 1) * 2, none⟩)) ∧ Ext W9 w' := fun W9 hW9 => by
          have h9 := cell_any W9 ((unhide H3).ext hW9) i0 (j0 + 1) g cap hiR (by show j0 + 1 < d1.C i0; omega) (unhide HG)
          rw [show ((j0 + 1 : Nat) : Int) = (j0 : Int) + 1 by omega] at h9
          exact h9
        have HCm := hide hcm
        clear hcm
        go_wp2_with fail
        first
          | (go_region_held3 (fun W => W.cell? ⟨F, 3, none⟩ = some (.int .i64 (i0 : Int)) ∧ W.cell? ⟨F, 4, none⟩ = some (.int .i64 (j0 : Int))) (first | exact ⟨c3, c4⟩ | exact ⟨e3, e4⟩ | exact ⟨p3, p4⟩) (first
              | (go_at_call 163
                 refine ((unhide HCm) _ (Ext.refl W3).drew).mono ?_
                 rintro e w4 ⟨rfl, E4⟩
                 have H4 := hide ((unhide H3).ext ((Ext.refl W3).drew.trans E4))
                 have HF4 := hide (Fr.tr (unhide HF3) (Fr.of_ext ((Ext.refl W3).drew.trans E4)))
                 obtain ⟨g', cap', e', b1, b2, b3, b4⟩ := (unhide H4).cellOf i0 (j0 + 1) hiR (by show j0 + 1 < d1.C i0; omega)
                 rw [unhide HG] at e'
                 simp only [Value.slice.injEq, Option.some.injEq, Addr.mk.injEq, and_true] at e'
                 rw [← e'.1] at b1 b2 b3 b4
                 clear e' E4
                 have e3 : w4.cell? ⟨F, 3, none⟩ = some (.int .i64 (i0 : Int)) := (by rw [← ei0]; exact cells_of (unhide H4).box 3 _ rfl)
                 have e4 : w4.cell? ⟨F, 4, none⟩ = some (.int .i64 (j0 : Int)) := (by rw [← ej0]; exact cells_of (unhide H4).box 4 _ rfl)
                 have hset := (unhide H4).setH1 i0 (j0 + 1) g cap hiR (by show j0 + 1 < d1.C i0; omega) (unhide HG)
                 have p3 : (w4.setCell ⟨g, (j0 + 1) * 2 + 1, none⟩ (.bool true)).cell? ⟨F, 3, none⟩ = some (.int .i64 (i0 : Int)) := (by rw [← ei0]; exact cells_of hset.1.box 3 _ rfl)
                 have p4 : (w4.setCell ⟨g, (j0 + 1) * 2 + 1, none⟩ (.bool true)).cell? ⟨F, 4, none⟩ = some (.int .i64 (j0 : Int)) := (by rw [← ej0]; exact cells_of hset.1.box 4 _ rfl)
                 have HP1 := hide hset
                 clear hset))
             )
          | fail
        obtain ⟨W5, hW5⟩ : ∃ W5, W5 = w4.setCell ⟨g, (j0 + 1) * 2 + 1, none⟩ (.bool true) := ⟨_, rfl⟩
        rw [← hW5] at HP1 p3 p4 ⊢
        have H5 := hide (unhide HP1).1
        have HF5 := hide (Fr.tr (unhide HF4) ((unhide H4).rowFr i0 hiR (unhide HP1).2))
        clear HP1 hW5 b1 b2 b3 b4 e3 e4 H4 HF4 HCm H3 HF3 c0 c3 c4 f4 p3 p4
        have c0 : W5.cell? ⟨F, 0, none⟩ = some (.int .i64 d1.cols) := cells_of (unhide H5).box 0 _ rfl
        have c4 : W5.cell? ⟨F, 4, none⟩ = some (.int .i64 (j0 : Int)) := by rw [← ej0]; exact cells_of (unhide H5).box 4 _ rfl
        have f4 : W5.frozen? ⟨F, 4, none⟩ = false := Lib.frozen_of_heap (unhide H5).box 4
        have wjw : IntKind.i64.wrap ((j0 : Int) + 2) = (j0 : Int) + 2 := by rw [IntKind.wrap_i64] <;> omega
        have wcm : IntKind.i64.wrap (d1.cols - 1) = d1.cols - 1 := by rw [IntKind.wrap_i64] <;> omega
        obtain ⟨d2, hd2⟩ : ∃ x, x = d1.put2 (Utf8.encode r) 2 := ⟨_, rfl⟩
        have HS2 : Hid (ScrW W5 F base X d2 gva rva hv bva) := hide (by
          have h9 := unhide H5
          rw [hd2]
          unfold SD.put2 SD.put1
          rw [if_pos rfl, ei0, ej0, Int.toNat_natCast, Int.toNat_natCast]
          exact h9)
        have hrest := put2_rest d1 (Utf8.encode r) 2
        rw [← hd2] at hrest
        obtain ⟨U, hU⟩ : ∃ U, U = W5.setCell ⟨F, 4, none⟩ (.int .i64 ((j0 : Int) + 2)) := ⟨_, rfl⟩
        have fU : Fr (fun k => k = F) W5 U := by rw [hU]; exact Fr.setCell (S := fun k => k = F) (Fr.refl _ _) (a := ⟨F, 4, none⟩) rfl _
        have hSU := (unhide HS2).head fU d2.row ((j0 : Int) + 2) d2.late (by rw [hU]; exact set_blk2 (unhide HS2).box rfl)
        have HU := hide hU
        have HSU := hide hSU
        have HFU := hide (Fr.tr (unhide HF5) (fU.mono (fun k hk => .inl hk)))
        have u0 : U.cell? ⟨F, 0, none⟩ = some (.int .i64 d1.cols) := by rw [← hrest.1]; exact cells_of hSU.box 0 _ rfl
        have u4 : U.cell? ⟨F, 4, none⟩ = some (.int .i64 ((j0 : Int) + 2)) := cells_of hSU.box 4 _ rfl
        clear hU fU hSU H5 HF5
        go_wp2_with fail
        rw [← unhide HU]
        clear c0 c4 f4 HU
        go_region_held3 (fun W => W.cell? ⟨F, 4, none⟩ = some (.int .i64 ((j0 : Int) + 2)) ∧ W.cell? ⟨F, 0, none⟩ = some (.int .i64 d1.cols)) (first | exact ⟨u4, u0⟩) (first | fail)
        have HSV := hide ((unhide HSU).ext (Ext.refl U).drew)
        have HFV := hide (Fr.tr (unhide HFU) (Fr.of_ext (Ext.refl U).drew))
        generalize U.drew = V at *
        clear HSU HFU u0 u4
        have v0 : V.cell? ⟨F, 0, none⟩ = some (.int .i64 d1.cols) := by rw [← hrest.1]; exact cells_of (unhide HSV).box 0 _ rfl
        have v4 := cells_of (unhide HSV).box 4 _ rfl
        have v5 := cells_of (unhide HSV).box 5 _ rfl
        have x4 : V.frozen? ⟨F, 4, none⟩ = false := Lib.frozen_of_heap (unhide HSV).box 4
        have x5 : V.frozen? ⟨F, 5, none⟩ = false := Lib.frozen_of_heap (unhide HSV).box 5
        by_cases hfull : d1.cols ≤ (j0 : Int) + 2
        · have HE3 : Hid (d1.put3 (Utf8.encode r) 2 = { d2 with col := d1.cols - 1, late := true }) := hide (by unfold SD.put3; rw [if_pos (by rw [ej0]; exact hfull), ← hd2])
          go_wp2
          go_end0
          have fs : Fr (fun k => k = F) V ((V.setCell ⟨F, 4, none⟩ (.int .i64 (d1.cols - 1))).setCell ⟨F, 5, none⟩ (.bool true)) := Fr.setCell (S := fun k => k = F) (Fr.setCell (S := fun k => k = F) (Fr.refl _ V) (a := ⟨F, 4, none⟩) rfl _) (a := ⟨F, 5, none⟩) rfl _
          have hfin := (unhide HSV).head fs d2.row (d1.cols - 1) true (set_blk2 (set_blk2 (unhide HSV).box rfl) rfl)
          refine ⟨rfl, ⟨gva, rva, bva, ?_⟩, Fr.tr (unhide HFV) (fs.mono (fun k hk => .inl hk))⟩
          unfold SD.put
          rw [← encode_is, ← unhide HDE, unhide HE3]
          exact hfin
        · have HE3 : Hid (d1.put3 (Utf8.encode r) 2 = { d2 with col := d1.col + 2 }) := hide (by unfold SD.put3; rw [if_neg (by rw [ej0]; exact hfull), ← hd2])
          go_wp2
          go_end0
          refine ⟨rfl, ⟨gva, rva, bva, ?_⟩, unhide HFV⟩
          unfold SD.put
          rw [← encode_is, ← unhide HDE, unhide HE3, ej0]
          exact unhide HSV
  | false =>
    rw [hl] at c5
    by_cases hcc : d.col = d.cols - 1
    · have hcb : (d.col == d.cols - 1) = true := by simp [hcc]
      go_enter Tryz.func106, Tryz.ntmps106
      go_wp2_with fail
      go_region
      have HR := hide (carriageReturn_e w.drew ⟨_, _, _, (unhide H).ext (Ext.refl w).drew⟩)
      clear c0 c4 c5 H
      go_wp2_with fail
      refine (unhide HR).mono ?_
      rintro e w5 ⟨rfl, h5, f5⟩
      have HL := hide (lineFeed_any w5 h5 (unhide HK).col0)
      rw [down_col0] at HL
      have HF5 := hide f5
      clear h5 f5 HR
      go_wp2_with fail
      refine (unhide HL).mono ?_
      rintro e wa ⟨rfl, ⟨gva, rva, bva, ha⟩, fa⟩
      have HFA := hide (Fr.tr (Fr.of_ext (Ext.refl w).drew) (Fr.tr (unhide HF5) fa))
      have HA : Hid (ScrW wa F base X d1 gva rva hv bva) := hide (by rw [hd1]; unfold SD.wrapL; rw [if_pos (.inr ⟨rfl, hcc⟩)]; exact ha)
      clear ha fa HL HF5 hd1
      have ok1 := (unhide HD1).1
      have hs1 := size_bd ok1
      have hrow1 := ok1.row
      have hcol1 := ok1.col
      have hle1 := (unhide HD1).2
      obtain ⟨i0, ei0⟩ : ∃ i0 : Nat, d1.row = i0 := ⟨d1.row.toNat, by omega⟩
      obtain ⟨j0, ej0⟩ : ∃ j0 : Nat, d1.col = j0 := ⟨d1.col.toNat, by omega⟩
      have hiR : i0 < d1.R := by have := ok1.R; omega
      have hCi := ok1.C i0 hiR
      have hjC : j0 + 2 ≤ d1.C i0 := by omega
      have HLoop : Hid (ScrW wa F base X (d1.clrTo i0 j0 (j0 + 0)) gva rva hv bva) := hide (by unfold SD.clrTo; rw [if_pos (by omega)]; exact unhide HA)
      obtain ⟨g, cap, hg, _, _, _, _⟩ := (unhide HA).cellOf i0 j0 hiR (by omega)
      have HG := hide hg
      have HOK1 := hide ok1
      have hC200 : d1.C i0 ≤ 200 := by omega
      clear hg ok1
      go_wp2_with fail
      go_loopw [32] (fun i wr => ∃ k : Nat, k ≤ 2 ∧ i = .int .i64 k ∧ Hid (ScrW wr F base X (d1.clrTo i0 j0 (j0 + k)) gva rva hv bva) ∧ Hid (FrW F base X w wr)) (fun i _ => 2 - (intOf i).toNat)
      case atStart => exact ⟨0, Nat.zero_le _, rfl, HLoop, HFA⟩
      case round =>
        clear HLoop HFA
        obtain ⟨k, hk1, rfl, HK, HF⟩ := hrel
        obtain ⟨q1, q2, q3⟩ := clrTo_rest d1 i0 j0 (j0 + k)
        have c3 : wr.cell? ⟨F, 3, none⟩ = some (.int .i64 (i0 : Int)) := by have h9 := cells_of (unhide HK).box 3 _ rfl; rw [← ei0, ← (clrTo_pos d1 i0 j0 (j0 + k)).1]; exact h9
        have c4 : wr.cell? ⟨F, 4, none⟩ = some (.int .i64 (j0 : Int)) := by have h9 := cells_of (unhide HK).box 4 _ rfl; rw [← ej0, ← (clrTo_pos d1 i0 j0 (j0 + k)).2]; exact h9
        by_cases hlt : k < 2
        · have b1 : (k : Int) < 2 := by omega
          have wjk : IntKind.i64.wrap ((j0 : Int) + (k : Int)) = (j0 : Int) + (k : Int) := by rw [IntKind.wrap_i64] <;> omega
          have hcall : ∀ W9, Ext wr W9 → Calls Tryz.prog 164 #[.pointer (some ⟨F, 0, none⟩), .int .i64 (i0 : Int), .int .i64 ((j0 : Int) + (k : Int))] W9 fun e w' => e = .returned (.tuple #[]) ∧ ScrW w' F base X (d1.clrTo i0 j0 (j0 + k + 1)) gva rva hv bva ∧ Fr (fun q => (rva i0).ownBlock = some q) W9 w' := fun W9 hW9 => by
            have h9 := blank_any W9 ((unhide HK).ext hW9) i0 (j0 + k) (by rw [q1]; exact hiR) (by rw [q2]; omega) (by rw [q2, q3]; exact hCi) (fun hh => by
              rcases Nat.eq_zero_or_pos k with e | e
              · subst e
                unfold SD.clrTo at hh
                rw [if_pos (by omega)] at hh
                exact ((unhide HOK1).half i0 (j0 + 0) hiR (by omega) hh).2.1
              · omega) (by rw [q2]; exact hC200)
            rw [clrTo_snoc d1 i0 j0 (j0 + k) (by omega) (by omega), show ((j0 + k : Nat) : Int) = (j0 : Int) + (k : Int) by omega] at h9
            exact h9
          have HCall := hide hcall
          clear hcall q1 q2 q3
          go_wp2_with fail
          go_region_held3 (fun W => W.cell? ⟨F, 3, none⟩ = some (.int .i64 (i0 : Int)) ∧ W.cell? ⟨F, 4, none⟩ = some (.int .i64 (j0 : Int))) (first | exact ⟨c3, c4⟩ | exact ⟨e3, e4⟩) (first
            | (go_at_call 164
               refine ((unhide HCall) _ (Ext.refl wr).drew).mono ?_
               rintro e w1 ⟨rfl, h1, f1⟩
               have e3 : w1.cell? ⟨F, 3, none⟩ = some (.int .i64 (i0 : Int)) := (by have h9 := cells_of h1.box 3 _ rfl; rw [← ei0, ← (clrTo_pos d1 i0 j0 (j0 + k + 1)).1]; exact h9)
               have e4 : w1.cell? ⟨F, 4, none⟩ = some (.int .i64 (j0 : Int)) := (by have h9 := cells_of h1.box 4 _ rfl; rw [← ej0, ← (clrTo_pos d1 i0 j0 (j0 + k + 1)).2]; exact h9)
               have HS2 := hide h1
               have HF2 := hide (Fr.tr (unhide HF) (Fr.tr (Fr.of_ext (Ext.refl wr).drew) (((unhide HK).ext (Ext.refl wr).drew).rowFr i0 (by rw [(clrTo_rest d1 i0 j0 (j0 + k)).1]; exact hiR) f1)))
               clear h1 f1))
          go_wp2
          go_roundw
          case rel => exact ⟨k + 1, by omega, by go_num, HS2, HF2⟩
          case measure => simp [intOf]; omega
        · obtain rfl : k = 2 := by omega
          have hb : ¬ ((2 : Nat) : Int) < 2 := by omega
          clear q1 q2 q3
          have HB : Hid (ScrW wr F base X (d1.clr i0 j0 (j0 + 2)) gva rva hv bva) := hide (by have := unhide HK; unfold SD.clrTo at this; rw [if_neg (by omega)] at this; exact this)
          clear HK
          have HCn := hide (fun W9 (hW9 : Ext wr W9) => cell_any W9 ((unhide HB).ext hW9) i0 j0 g cap hiR (by show j0 < d1.C i0; omega) (unhide HG))
          go_wp2_with fail
          first
            | (go_region_held3 (fun W => W.cell? ⟨F, 3, none⟩ = some (.int .i64 (i0 : Int)) ∧ W.cell? ⟨F, 4, none⟩ = some (.int .i64 (j0 : Int))) (first | exact ⟨c3, c4⟩ | exact ⟨e3, e4⟩ | exact ⟨p3, p4⟩) (first
                | (go_at_call 163
                   refine ((unhide HCn) _ (Ext.refl wr).drew).mono ?_
                   rintro e w2 ⟨rfl, E2⟩
                   have H2 := hide ((unhide HB).ext ((Ext.refl wr).drew.trans E2))
                   have HF2 := hide (Fr.tr (unhide HF) (Fr.of_ext ((Ext.refl wr).drew.trans E2)))
                   obtain ⟨g', cap', e', b1, b2, b3, b4⟩ := (unhide H2).cellOf i0 j0 hiR (by show j0 < d1.C i0; omega)
                   rw [unhide HG] at e'
                   simp only [Value.slice.injEq, Option.some.injEq, Addr.mk.injEq, and_true] at e'
                   rw [← e'.1] at b1 b2 b3 b4
                   clear e' E2
                   have e3 : w2.cell? ⟨F, 3, none⟩ = some (.int .i64 (i0 : Int)) := (by rw [← ei0]; exact cells_of (unhide H2).box 3 _ rfl)
                   have e4 : w2.cell? ⟨F, 4, none⟩ = some (.int .i64 (j0 : Int)) := (by rw [← ej0]; exact cells_of (unhide H2).box 4 _ rfl)
                   have hset := (unhide H2).setT1 i0 j0 g cap hiR (by show j0 < d1.C i0; omega) (unhide HG) (Utf8.encode r)
                   have p3 : (w2.setCell ⟨g, j0 * 2, none⟩ (.string (Utf8.encode r))).cell? ⟨F, 3, none⟩ = some (.int .i64 (i0 : Int)) := (by rw [← ei0]; exact cells_of hset.1.box 3 _ rfl)
                   have p4 : (w2.setCell ⟨g, j0 * 2, none⟩ (.string (Utf8.encode r))).cell? ⟨F, 4, none⟩ = some (.int .i64 (j0 : Int)) := (by rw [← ej0]; exact cells_of hset.1.box 4 _ rfl)
                   have HP1 := hide hset
                   clear hset))
               )
            | fail
          obtain ⟨W3, hW3⟩ : ∃ W3, W3 = w2.setCell ⟨g, j0 * 2, none⟩ (.string (Utf8.encode r)) := ⟨_, rfl⟩
          rw [← hW3] at HP1 p3 p4 ⊢
          have H3 := hide (unhide HP1).1
          have HF3 := hide (Fr.tr (unhide HF2) ((unhide H2).rowFr i0 hiR (unhide HP1).2))
          clear HP1 hW3 b1 b2 b3 b4 e3 e4 H2 HF2 HCn HB HF c3 c4 p3 p4
          have c0 : W3.cell? ⟨F, 0, none⟩ = some (.int .i64 d1.cols) := cells_of (unhide H3).box 0 _ rfl
          have c4 : W3.cell? ⟨F, 4, none⟩ = some (.int .i64 (j0 : Int)) := by rw [← ej0]; exact cells_of (unhide H3).box 4 _ rfl
          have f4 : W3.frozen? ⟨F, 4, none⟩ = false := Lib.frozen_of_heap (unhide H3).box 4
          have c3 : W3.cell? ⟨F, 3, none⟩ = some (.int .i64 (i0 : Int)) := by rw [← ei0]; exact cells_of (unhide H3).box 3 _ rfl
          have wj1 : IntKind.i64.wrap ((j0 : Int) + 1) = (j0 : Int) + 1 := by rw [IntKind.wrap_i64] <;> omega
          have hcm : ∀ W9, Ext W3 W9 → Calls Tryz.prog 163 #[.pointer (some ⟨F, 0, none⟩), .int .i64 (i0 : Int), .int .i64 ((j0 : Int) + 1)] W9 fun e w' => e = .returned (.pointer (some ⟨g, (j0 + 1) * 2, none⟩)) ∧ Ext W9 w' := fun W9 hW9 => by
            have h9 := cell_any W9 ((unhide H3).ext hW9) i0 (j0 + 1) g cap hiR (by show j0 + 1 < d1.C i0; omega) (unhide HG)
            rw [show ((j0 + 1 : Nat) : Int) = (j0 : Int) + 1 by omega] at h9
            exact h9
          have HCm := hide hcm
          clear hcm
          go_wp2_with fail
          first
            | (go_region_held3 (fun W => W.cell? ⟨F, 3, none⟩ = some (.int .i64 (i0 : Int)) ∧ W.cell? ⟨F, 4, none⟩ = some (.int .i64 (j0 : Int))) (first | exact ⟨c3, c4⟩ | exact ⟨e3, e4⟩ | exact ⟨p3, p4⟩) (first
                | (go_at_call 163
                   refine ((unhide HCm) _ (Ext.refl W3).drew).mono ?_
                   rintro e w4 ⟨rfl, E4⟩
                   have H4 := hide ((unhide H3).ext ((Ext.refl W3).drew.trans E4))
                   have HF4 := hide (Fr.tr (unhide HF3) (Fr.of_ext ((Ext.refl W3).drew.trans E4)))
                   obtain ⟨g', cap', e', b1, b2, b3, b4⟩ := (unhide H4).cellOf i0 (j0 + 1) hiR (by show j0 + 1 < d1.C i0; omega)
                   rw [unhide HG] at e'
                   simp only [Value.slice.injEq, Option.some.injEq, Addr.mk.injEq, and_true] at e'
                   rw [← e'.1] at b1 b2 b3 b4
                   clear e' E4
                   have e3 : w4.cell? ⟨F, 3, none⟩ = some (.int .i64 (i0 : Int)) := (by rw [← ei0]; exact cells_of (unhide H4).box 3 _ rfl)
                   have e4 : w4.cell? ⟨F, 4, none⟩ = some (.int .i64 (j0 : Int)) := (by rw [← ej0]; exact cells_of (unhide H4).box 4 _ rfl)
                   have hset := (unhide H4).setH1 i0 (j0 + 1) g cap hiR (by show j0 + 1 < d1.C i0; omega) (unhide HG)
                   have p3 : (w4.setCell ⟨g, (j0 + 1) * 2 + 1, none⟩ (.bool true)).cell? ⟨F, 3, none⟩ = some (.int .i64 (i0 : Int)) := (by rw [← ei0]; exact cells_of hset.1.box 3 _ rfl)
                   have p4 : (w4.setCell ⟨g, (j0 + 1) * 2 + 1, none⟩ (.bool true)).cell? ⟨F, 4, none⟩ = some (.int .i64 (j0 : Int)) := (by rw [← ej0]; exact cells_of hset.1.box 4 _ rfl)
                   have HP1 := hide hset
                   clear hset))
               )
            | fail
          obtain ⟨W5, hW5⟩ : ∃ W5, W5 = w4.setCell ⟨g, (j0 + 1) * 2 + 1, none⟩ (.bool true) := ⟨_, rfl⟩
          rw [← hW5] at HP1 p3 p4 ⊢
          have H5 := hide (unhide HP1).1
          have HF5 := hide (Fr.tr (unhide HF4) ((unhide H4).rowFr i0 hiR (unhide HP1).2))
          clear HP1 hW5 b1 b2 b3 b4 e3 e4 H4 HF4 HCm H3 HF3 c0 c3 c4 f4 p3 p4
          have c0 : W5.cell? ⟨F, 0, none⟩ = some (.int .i64 d1.cols) := cells_of (unhide H5).box 0 _ rfl
          have c4 : W5.cell? ⟨F, 4, none⟩ = some (.int .i64 (j0 : Int)) := by rw [← ej0]; exact cells_of (unhide H5).box 4 _ rfl
          have f4 : W5.frozen? ⟨F, 4, none⟩ = false := Lib.frozen_of_heap (unhide H5).box 4
          have wjw : IntKind.i64.wrap ((j0 : Int) + 2) = (j0 : Int) + 2 := by rw [IntKind.wrap_i64] <;> omega
          have wcm : IntKind.i64.wrap (d1.cols - 1) = d1.cols - 1 := by rw [IntKind.wrap_i64] <;> omega
          obtain ⟨d2, hd2⟩ : ∃ x, x = d1.put2 (Utf8.encode r) 2 := ⟨_, rfl⟩
          have HS2 : Hid (ScrW W5 F base X d2 gva rva hv bva) := hide (by
            have h9 := unhide H5
            rw [hd2]
            unfold SD.put2 SD.put1
            rw [if_pos rfl, ei0, ej0, Int.toNat_natCast, Int.toNat_natCast]
            exact h9)
          have hrest := put2_rest d1 (Utf8.encode r) 2
          rw [← hd2] at hrest
          obtain ⟨U, hU⟩ : ∃ U, U = W5.setCell ⟨F, 4, none⟩ (.int .i64 ((j0 : Int) + 2)) := ⟨_, rfl⟩
          have fU : Fr (fun k => k = F) W5 U := by rw [hU]; exact Fr.setCell (S := fun k => k = F) (Fr.refl _ _) (a := ⟨F, 4, none⟩) rfl _
          have hSU := (unhide HS2).head fU d2.row ((j0 : Int) + 2) d2.late (by rw [hU]; exact set_blk2 (unhide HS2).box rfl)
          have HU := hide hU
          have HSU := hide hSU
          have HFU := hide (Fr.tr (unhide HF5) (fU.mono (fun k hk => .inl hk)))
          have u0 : U.cell? ⟨F, 0, none⟩ = some (.int .i64 d1.cols) := by rw [← hrest.1]; exact cells_of hSU.box 0 _ rfl
          have u4 : U.cell? ⟨F, 4, none⟩ = some (.int .i64 ((j0 : Int) + 2)) := cells_of hSU.box 4 _ rfl
          clear hU fU hSU H5 HF5
          go_wp2_with fail
          rw [← unhide HU]
          clear c0 c4 f4 HU
          go_region_held3 (fun W => W.cell? ⟨F, 4, none⟩ = some (.int .i64 ((j0 : Int) + 2)) ∧ W.cell? ⟨F, 0, none⟩ = some (.int .i64 d1.cols)) (first | exact ⟨u4, u0⟩) (first | fail)
          have HSV := hide ((unhide HSU).ext (Ext.refl U).drew)
          have HFV := hide (Fr.tr (unhide HFU) (Fr.of_ext (Ext.refl U).drew))
          generalize U.drew = V at *
          clear HSU HFU u0 u4
          have v0 : V.cell? ⟨F, 0, none⟩ = some (.int .i64 d1.cols) := by rw [← hrest.1]; exact cells_of (unhide HSV).box 0 _ rfl
          have v4 := cells_of (unhide HSV).box 4 _ rfl
          have v5 := cells_of (unhide HSV).box 5 _ rfl
          have x4 : V.frozen? ⟨F, 4, none⟩ = false := Lib.frozen_of_heap (unhide HSV).box 4
          have x5 : V.frozen? ⟨F, 5, none⟩ = false := Lib.frozen_of_heap (unhide HSV).box 5
          by_cases hfull : d1.cols ≤ (j0 : Int) + 2
          · have HE3 : Hid (d1.put3 (Utf8.encode r) 2 = { d2 with col := d1.cols - 1, late := true }) := hide (by unfold SD.put3; rw [if_pos (by rw [ej0]; exact hfull), ← hd2])
            go_wp2
            go_end0
            have fs : Fr (fun k => k = F) V ((V.setCell ⟨F, 4, none⟩ (.int .i64 (d1.cols - 1))).setCell ⟨F, 5, none⟩ (.bool true)) := Fr.setCell (S := fun k => k = F) (Fr.setCell (S := fun k => k = F) (Fr.refl _ V) (a := ⟨F, 4, none⟩) rfl _) (a := ⟨F, 5, none⟩) rfl _
            have hfin := (unhide HSV).head fs d2.row (d1.cols - 1) true (set_blk2 (set_blk2 (unhide HSV).box rfl) rfl)
            refine ⟨rfl, ⟨gva, rva, bva, ?_⟩, Fr.tr (unhide HFV) (fs.mono (fun k hk => .inl hk))⟩
            unfold SD.put
            rw [← encode_is, ← unhide HDE, unhide HE3]
            exact hfin
          · have HE3 : Hid (d1.put3 (Utf8.encode r) 2 = { d2 with col := d1.col + 2 }) := hide (by unfold SD.put3; rw [if_neg (by rw [ej0]; exact hfull), ← hd2])
            go_wp2
            go_end0
            refine ⟨rfl, ⟨gva, rva, bva, ?_⟩, unhide HFV⟩
            unfold SD.put
            rw [← encode_is, ← unhide HDE, unhide HE3, ej0]
            exact unhide HSV
    · have hcb : (d.col == d.cols - 1) = false := by simp [hcc]
      go_enter Tryz.func106, Tryz.ntmps106
      go_wp2_with fail
      go_region
      obtain ⟨wa, hwa⟩ : ∃ wa, wa = w.drew := ⟨_, rfl⟩
      have HA : Hid (ScrW wa F base X d1 gv rv hv bv) := hide (by rw [hd1, hwa]; unfold SD.wrapL; rw [if_neg (by rw [hl]; simp; omega)]; exact (unhide H).ext (Ext.refl w).drew)
      have HFA : Hid (FrW F base X w wa) := hide (by rw [hwa]; exact Fr.of_ext (Ext.refl w).drew)
      rw [← hwa]
      generalize gv = gva at *
      generalize rv = rva at *
      generalize bv = bva at *
      clear c0 c4 c5 H hd1 hwa
      have ok1 := (unhide HD1).1
      have hs1 := size_bd ok1
      have hrow1 := ok1.row
      have hcol1 := ok1.col
      have hle1 := (unhide HD1).2
      obtain ⟨i0, ei0⟩ : ∃ i0 : Nat, d1.row = i0 := ⟨d1.row.toNat, by omega⟩
      obtain ⟨j0, ej0⟩ : ∃ j0 : Nat, d1.col = j0 := ⟨d1.col.toNat, by omega⟩
      have hiR : i0 < d1.R := by have := ok1.R; omega
      have hCi := ok1.C i0 hiR
      have hjC : j0 + 2 ≤ d1.C i0 := by omega
      have HLoop : Hid (ScrW wa F base X (d1.clrTo i0 j0 (j0 + 0)) gva rva hv bva) := hide (by unfold SD.clrTo; rw [if_pos (by omega)]; exact unhide HA)
      obtain ⟨g, cap, hg, _, _, _, _⟩ := (unhide HA).cellOf i0 j0 hiR (by omega)
      have HG := hide hg
      have HOK1 := hide ok1
      have hC200 : d1.C i0 ≤ 200 := by omega
      clear hg ok1
      go_wp2_with fail
      go_loopw [32] (fun i wr => ∃ k : Nat, k ≤ 2 ∧ i = .int .i64 k ∧ Hid (ScrW wr F base X (d1.clrTo i0 j0 (j0 + k)) gva rva hv bva) ∧ Hid (FrW F base X w wr)) (fun i _ => 2 - (intOf i).toNat)
      case atStart => exact ⟨0, Nat.zero_le _, rfl, HLoop, HFA⟩
      case round =>
        clear HLoop HFA
        obtain ⟨k, hk1, rfl, HK, HF⟩ := hrel
        obtain ⟨q1, q2, q3⟩ := clrTo_rest d1 i0 j0 (j0 + k)
        have c3 : wr.cell? ⟨F, 3, none⟩ = some (.int .i64 (i0 : Int)) := by have h9 := cells_of (unhide HK).box 3 _ rfl; rw [← ei0, ← (clrTo_pos d1 i0 j0 (j0 + k)).1]; exact h9
        have c4 : wr.cell? ⟨F, 4, none⟩ = some (.int .i64 (j0 : Int)) := by have h9 := cells_of (unhide HK).box 4 _ rfl; rw [← ej0, ← (clrTo_pos d1 i0 j0 (j0 + k)).2]; exact h9
        by_cases hlt : k < 2
        · have b1 : (k : Int) < 2 := by omega
          have wjk : IntKind.i64.wrap ((j0 : Int) + (k : Int)) = (j0 : Int) + (k : Int) := by rw [IntKind.wrap_i64] <;> omega
          have hcall : ∀ W9, Ext wr W9 → Calls Tryz.prog 164 #[.pointer (some ⟨F, 0, none⟩), .int .i64 (i0 : Int), .int .i64 ((j0 : Int) + (k : Int))] W9 fun e w' => e = .returned (.tuple #[]) ∧ ScrW w' F base X (d1.clrTo i0 j0 (j0 + k + 1)) gva rva hv bva ∧ Fr (fun q => (rva i0).ownBlock = some q) W9 w' := fun W9 hW9 => by
            have h9 := blank_any W9 ((unhide HK).ext hW9) i0 (j0 + k) (by rw [q1]; exact hiR) (by rw [q2]; omega) (by rw [q2, q3]; exact hCi) (fun hh => by
              rcases Nat.eq_zero_or_pos k with e | e
              · subst e
                unfold SD.clrTo at hh
                rw [if_pos (by omega)] at hh
                exact ((unhide HOK1).half i0 (j0 + 0) hiR (by omega) hh).2.1
              · omega) (by rw [q2]; exact hC200)
            rw [clrTo_snoc d1 i0 j0 (j0 + k) (by omega) (by omega), show ((j0 + k : Nat) : Int) = (j0 : Int) + (k : Int) by omega] at h9
            exact h9
          have HCall := hide hcall
          clear hcall q1 q2 q3
          go_wp2_with fail
          go_region_held3 (fun W => W.cell? ⟨F, 3, none⟩ = some (.int .i64 (i0 : Int)) ∧ W.cell? ⟨F, 4, none⟩ = some (.int .i64 (j0 : Int))) (first | exact ⟨c3, c4⟩ | exact ⟨e3, e4⟩) (first
            | (go_at_call 164
               refine ((unhide HCall) _ (Ext.refl wr).drew).mono ?_
               rintro e w1 ⟨rfl, h1, f1⟩
               have e3 : w1.cell? ⟨F, 3, none⟩ = some (.int .i64 (i0 : Int)) := (by have h9 := cells_of h1.box 3 _ rfl; rw [← ei0, ← (clrTo_pos d1 i0 j0 (j0 + k + 1)).1]; exact h9)
               have e4 : w1.cell? ⟨F, 4, none⟩ = some (.int .i64 (j0 : Int)) := (by have h9 := cells_of h1.box 4 _ rfl; rw [← ej0, ← (clrTo_pos d1 i0 j0 (j0 + k + 1)).2]; exact h9)
               have HS2 := hide h1
               have HF2 := hide (Fr.tr (unhide HF) (Fr.tr (Fr.of_ext (Ext.refl wr).drew) (((unhide HK).ext (Ext.refl wr).drew).rowFr i0 (by rw [(clrTo_rest d1 i0 j0 (j0 + k)).1]; exact hiR) f1)))
               clear h1 f1))
          go_wp2
          go_roundw
          case rel => exact ⟨k + 1, by omega, by go_num, HS2, HF2⟩
          case measure => simp [intOf]; omega
        · obtain rfl : k = 2 := by omega
          have hb : ¬ ((2 : Nat) : Int) < 2 := by omega
          clear q1 q2 q3
          have HB : Hid (ScrW wr F base X (d1.clr i0 j0 (j0 + 2)) gva rva hv bva) := hide (by have := unhide HK; unfold SD.clrTo at this; rw [if_neg (by omega)] at this; exact this)
          clear HK
          have HCn := hide (fun W9 (hW9 : Ext wr W9) => cell_any W9 ((unhide HB).ext hW9) i0 j0 g cap hiR (by show j0 < d1.C i0; omega) (unhide HG))
          go_wp2_with fail
          first
            | (go_region_held3 (fun W => W.cell? ⟨F, 3, none⟩ = some (.int .i64 (i0 : Int)) ∧ W.cell? ⟨F, 4, none⟩ = some (.int .i64 (j0 : Int))) (first | exact ⟨c3, c4⟩ | exact ⟨e3, e4⟩ | exact ⟨p3, p4⟩) (first
                | (go_at_call 163
                   refine ((unhide HCn) _ (Ext.refl wr).drew).mono ?_
                   rintro e w2 ⟨rfl, E2⟩
                   have H2 := hide ((unhide HB).ext ((Ext.refl wr).drew.trans E2))
                   have HF2 := hide (Fr.tr (unhide HF) (Fr.of_ext ((Ext.refl wr).drew.trans E2)))
                   obtain ⟨g', cap', e', b1, b2, b3, b4⟩ := (unhide H2).cellOf i0 j0 hiR (by show j0 < d1.C i0; omega)
                   rw [unhide HG] at e'
                   simp only [Value.slice.injEq, Option.some.injEq, Addr.mk.injEq, and_true] at e'
                   rw [← e'.1] at b1 b2 b3 b4
                   clear e' E2
                   have e3 : w2.cell? ⟨F, 3, none⟩ = some (.int .i64 (i0 : Int)) := (by rw [← ei0]; exact cells_of (unhide H2).box 3 _ rfl)
                   have e4 : w2.cell? ⟨F, 4, none⟩ = some (.int .i64 (j0 : Int)) := (by rw [← ej0]; exact cells_of (unhide H2).box 4 _ rfl)
                   have hset := (unhide H2).setT1 i0 j0 g cap hiR (by show j0 < d1.C i0; omega) (unhide HG) (Utf8.encode r)
                   have p3 : (w2.setCell ⟨g, j0 * 2, none⟩ (.string (Utf8.encode r))).cell? ⟨F, 3, none⟩ = some (.int .i64 (i0 : Int)) := (by rw [← ei0]; exact cells_of hset.1.box 3 _ rfl)
                   have p4 : (w2.setCell ⟨g, j0 * 2, none⟩ (.string (Utf8.encode r))).cell? ⟨F, 4, none⟩ = some (.int .i64 (j0 : Int)) := (by rw [← ej0]; exact cells_of hset.1.box 4 _ rfl)
                   have HP1 := hide hset
                   clear hset))
               )
            | fail
          obtain ⟨W3, hW3⟩ : ∃ W3, W3 = w2.setCell ⟨g, j0 * 2, none⟩ (.string (Utf8.encode r)) := ⟨_, rfl⟩
          rw [← hW3] at HP1 p3 p4 ⊢
          have H3 := hide (unhide HP1).1
          have HF3 := hide (Fr.tr (unhide HF2) ((unhide H2).rowFr i0 hiR (unhide HP1).2))
          clear HP1 hW3 b1 b2 b3 b4 e3 e4 H2 HF2 HCn HB HF c3 c4 p3 p4
          have c0 : W3.cell? ⟨F, 0, none⟩ = some (.int .i64 d1.cols) := cells_of (unhide H3).box 0 _ rfl
          have c4 : W3.cell? ⟨F, 4, none⟩ = some (.int .i64 (j0 : Int)) := by rw [← ej0]; exact cells_of (unhide H3).box 4 _ rfl
          have f4 : W3.frozen? ⟨F, 4, none⟩ = false := Lib.frozen_of_heap (unhide H3).box 4
          have c3 : W3.cell? ⟨F, 3, none⟩ = some (.int .i64 (i0 : Int)) := by rw [← ei0]; exact cells_of (unhide H3).box 3 _ rfl
          have wj1 : IntKind.i64.wrap ((j0 : Int) + 1) = (j0 : Int) + 1 := by rw [IntKind.wrap_i64] <;> omega
          have hcm : ∀ W9, Ext W3 W9 → Calls Tryz.prog 163 #[.pointer (some ⟨F, 0, none⟩), .int .i64 (i0 : Int), .int .i64 ((j0 : Int) + 1)] W9 fun e w' => e = .returned (.pointer (some ⟨g, (j0 + 1) * 2, none⟩)) ∧ Ext W9 w' := fun W9 hW9 => by
            have h9 := cell_any W9 ((unhide H3).ext hW9) i0 (j0 + 1) g cap hiR (by show j0 + 1 < d1.C i0; omega) (unhide HG)
            rw [show ((j0 + 1 : Nat) : Int) = (j0 : Int) + 1 by omega] at h9
            exact h9
          have HCm := hide hcm
          clear hcm
          go_wp2_with fail
          first
            | (go_region_held3 (fun W => W.cell? ⟨F, 3, none⟩ = some (.int .i64 (i0 : Int)) ∧ W.cell? ⟨F, 4, none⟩ = some (.int .i64 (j0 : Int))) (first | exact ⟨c3, c4⟩ | exact ⟨e3, e4⟩ | exact ⟨p3, p4⟩) (first
                | (go_at_call 163
                   refine ((unhide HCm) _ (Ext.refl W3).drew).mono ?_
                   rintro e w4 ⟨rfl, E4⟩
                   have H4 := hide ((unhide H3).ext ((Ext.refl W3).drew.trans E4))
                   have HF4 := hide (Fr.tr (unhide HF3) (Fr.of_ext ((Ext.refl W3).drew.trans E4)))
                   obtain ⟨g', cap', e', b1, b2, b3, b4⟩ := (unhide H4).cellOf i0 (j0 + 1) hiR (by show j0 + 1 < d1.C i0; omega)
                   rw [unhide HG] at e'
                   simp only [Value.slice.injEq, Option.some.injEq, Addr.mk.injEq, and_true] at e'
                   rw [← e'.1] at b1 b2 b3 b4
                   clear e' E4
                   have e3 : w4.cell? ⟨F, 3, none⟩ = some (.int .i64 (i0 : Int)) := (by rw [← ei0]; exact cells_of (unhide H4).box 3 _ rfl)
                   have e4 : w4.cell? ⟨F, 4, none⟩ = some (.int .i64 (j0 : Int)) := (by rw [← ej0]; exact cells_of (unhide H4).box 4 _ rfl)
                   have hset := (unhide H4).setH1 i0 (j0 + 1) g cap hiR (by show j0 + 1 < d1.C i0; omega) (unhide HG)
                   have p3 : (w4.setCell ⟨g, (j0 + 1) * 2 + 1, none⟩ (.bool true)).cell? ⟨F, 3, none⟩ = some (.int .i64 (i0 : Int)) := (by rw [← ei0]; exact cells_of hset.1.box 3 _ rfl)
                   have p4 : (w4.setCell ⟨g, (j0 + 1) * 2 + 1, none⟩ (.bool true)).cell? ⟨F, 4, none⟩ = some (.int .i64 (j0 : Int)) := (by rw [← ej0]; exact cells_of hset.1.box 4 _ rfl)
                   have HP1 := hide hset
                   clear hset))
               )
            | fail
          obtain ⟨W5, hW5⟩ : ∃ W5, W5 = w4.setCell ⟨g, (j0 + 1) * 2 + 1, none⟩ (.bool true) := ⟨_, rfl⟩
          rw [← hW5] at HP1 p3 p4 ⊢
          have H5 := hide (unhide HP1).1
          have HF5 := hide (Fr.tr (unhide HF4) ((unhide H4).rowFr i0 hiR (unhide HP1).2))
          clear HP1 hW5 b1 b2 b3 b4 e3 e4 H4 HF4 HCm H3 HF3 c0 c3 c4 f4 p3 p4
          have c0 : W5.cell? ⟨F, 0, none⟩ = some (.int .i64 d1.cols) := cells_of (unhide H5).box 0 _ rfl
          have c4 : W5.cell? ⟨F, 4, none⟩ = some (.int .i64 (j0 : Int)) := by rw [← ej0]; exact cells_of (unhide H5).box 4 _ rfl
          have f4 : W5.frozen? ⟨F, 4, none⟩ = false := Lib.frozen_of_heap (unhide H5).box 4
          have wjw : IntKind.i64.wrap ((j0 : Int) + 2) = (j0 : Int) + 2 := by rw [IntKind.wrap_i64] <;> omega
          have wcm : IntKind.i64.wrap (d1.cols - 1) = d1.cols - 1 := by rw [IntKind.wrap_i64] <;> omega
          obtain ⟨d2, hd2⟩ : ∃ x, x = d1.put2 (Utf8.encode r) 2 := ⟨_, rfl⟩
          have HS2 : Hid (ScrW W5 F base X d2 gva rva hv bva) := hide (by
            have h9 := unhide H5
            rw [hd2]
            unfold SD.put2 SD.put1
            rw [if_pos rfl, ei0, ej0, Int.toNat_natCast, Int.toNat_natCast]
            exact h9)
          have hrest := put2_rest d1 (Utf8.encode r) 2
          rw [← hd2] at hrest
          obtain ⟨U, hU⟩ : ∃ U, U = W5.setCell ⟨F, 4, none⟩ (.int .i64 ((j0 : Int) + 2)) := ⟨_, rfl⟩
          have fU : Fr (fun k => k = F) W5 U := by rw [hU]; exact Fr.setCell (S := fun k => k = F) (Fr.refl _ _) (a := ⟨F, 4, none⟩) rfl _
          have hSU := (unhide HS2).head fU d2.row ((j0 : Int) + 2) d2.late (by rw [hU]; exact set_blk2 (unhide HS2).box rfl)
          have HU := hide hU
          have HSU := hide hSU
          have HFU := hide (Fr.tr (unhide HF5) (fU.mono (fun k hk => .inl hk)))
          have u0 : U.cell? ⟨F, 0, none⟩ = some (.int .i64 d1.cols) := by rw [← hrest.1]; exact cells_of hSU.box 0 _ rfl
          have u4 : U.cell? ⟨F, 4, none⟩ = some (.int .i64 ((j0 : Int) + 2)) := cells_of hSU.box 4 _ rfl
          clear hU fU hSU H5 HF5
          go_wp2_with fail
          rw [← unhide HU]
          clear c0 c4 f4 HU
          go_region_held3 (fun W => W.cell? ⟨F, 4, none⟩ = some (.int .i64 ((j0 : Int) + 2)) ∧ W.cell? ⟨F, 0, none⟩ = some (.int .i64 d1.cols)) (first | exact ⟨u4, u0⟩) (first | fail)
          have HSV := hide ((unhide HSU).ext (Ext.refl U).drew)
          have HFV := hide (Fr.tr (unhide HFU) (Fr.of_ext (Ext.refl U).drew))
          generalize U.drew = V at *
          clear HSU HFU u0 u4
          have v0 : V.cell? ⟨F, 0, none⟩ = some (.int .i64 d1.cols) := by rw [← hrest.1]; exact cells_of (unhide HSV).box 0 _ rfl
          have v4 := cells_of (unhide HSV).box 4 _ rfl
          have v5 := cells_of (unhide HSV).box 5 _ rfl
          have x4 : V.frozen? ⟨F, 4, none⟩ = false := Lib.frozen_of_heap (unhide HSV).box 4
          have x5 : V.frozen? ⟨F, 5, none⟩ = false := Lib.frozen_of_heap (unhide HSV).box 5
          by_cases hfull : d1.cols ≤ (j0 : Int) + 2
          · have HE3 : Hid (d1.put3 (Utf8.encode r) 2 = { d2 with col := d1.cols - 1, late := true }) := hide (by unfold SD.put3; rw [if_pos (by rw [ej0]; exact hfull), ← hd2])
            go_wp2
            go_end0
            have fs : Fr (fun k => k = F) V ((V.setCell ⟨F, 4, none⟩ (.int .i64 (d1.cols - 1))).setCell ⟨F, 5, none⟩ (.bool true)) := Fr.setCell (S := fun k => k = F) (Fr.setCell (S := fun k => k = F) (Fr.refl _ V) (a := ⟨F, 4, none⟩) rfl _) (a := ⟨F, 5, none⟩) rfl _
            have hfin := (unhide HSV).head fs d2.row (d1.cols - 1) true (set_blk2 (set_blk2 (unhide HSV).box rfl) rfl)
            refine ⟨rfl, ⟨gva, rva, bva, ?_⟩, Fr.tr (unhide HFV) (fs.mono (fun k hk => .inl hk))⟩
            unfold SD.put
            rw [← encode_is, ← unhide HDE, unhide HE3]
            exact hfin
          · have HE3 : Hid (d1.put3 (Utf8.encode r) 2 = { d2 with col := d1.col + 2 }) := hide (by unfold SD.put3; rw [if_neg (by rw [ej0]; exact hfull), ← hd2])
            go_wp2
            go_end0
            refine ⟨rfl, ⟨gva, rva, bva, ?_⟩, unhide HFV⟩
            unfold SD.put
            rw [← encode_is, ← unhide HDE, unhide HE3, ej0]
            exact unhide HSV
end
end Go.Proofs.YtinfdhbnljnifaaGreatDoor
