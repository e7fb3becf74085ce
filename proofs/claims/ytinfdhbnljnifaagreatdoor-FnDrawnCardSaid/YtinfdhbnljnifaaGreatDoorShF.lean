import Derived.Test.YtinfdhbnljnifaaGreatDoorFdY
import Derived.Test.YtinfdhbnljnifaaGreatDoorFdE
import Derived.Test.YtinfdhbnljnifaaGreatDoorLinesT
import Derived.Test.YtinfdhbnljnifaaGreatDoorRd
import Derived.Test.YtinfdhbnljnifaaGreatDoorFdB
namespace Go.Proofs.YtinfdhbnljnifaaGreatDoor
open Go.RowKit
section
variable {F base : Nat} {X : Nat → Prop} {d : SD} {gv : Value} {rv : Nat → Value} {hv bv : Value}
set_option maxRecDepth 10000 in
set_option maxHeartbeats 16000000 in
theorem put_2 (w : World) (h : zdP w F base X d hv) (hk : zeT d) (r : Int) :
    Calls Tryz.prog 106 #[.pointer (some ⟨F, 0, none⟩), .int .i32 r, .int .i64 2] w fun e w' => e = .returned (.tuple #[]) ∧ zdP w' F base X (d.put zp (zo (zac r)) 2) hv ∧ FrW F base X w w' := by
  have hs := zae hk.1
  obtain ⟨gv, rv, bv, h⟩ := h
  have c0 := zg h.box 0 _ rfl
  have c4 := zg h.box 4 _ rfl
  have c5 := zg h.box 5 _ rfl
  have wc : IntKind.i64.wrap (d.cols - 1) = d.cols - 1 := by rw [IntKind.wrap_i64] <;> omega
  obtain ⟨d1, hd1⟩ : ∃ x, x = d.wrapL zp 2 := ⟨_, rfl⟩
  have hok1 := ze8 zp hk.1 2 (by omega)
  rw [← hd1] at hok1
  have HD1 : Hid (OkP d1 ∧ d1.col + 2 ≤ d1.cols) := zh ⟨hok1.1, hok1.2.2⟩
  have HDE := zh hd1
  have H := zh h
  have HK := zh hk
  clear h hk hok1
  have hcs : d.late = true ∨ (d.late = false ∧ (d.col = d.cols - 1)) ∨ (d.late = false ∧ ¬ (d.col = d.cols - 1)) := by
    cases d.late
    · by_cases h9 : d.col = d.cols - 1
      · exact .inr (.inl ⟨rfl, h9⟩)
      · exact .inr (.inr ⟨rfl, h9⟩)
    · exact .inl rfl
  rcases hcs with hl | ⟨hl, hcc⟩ | ⟨hl, hcc⟩
  case' inl =>
    rw [hl] at c5
    go_enter Tryz.func106, Tryz.ntmps106
    go_wp2_with fail
    go_region
    have HR := zh (zbx w.drew ⟨_, _, _, (zu H).ext (Ext.refl w).drew⟩)
    clear c0 c4 c5 H
    go_wp2_with fail
    refine (zu HR).mono ?_
    rintro e w5 ⟨rfl, h5, f5⟩
    have HL := zh (zct w5 h5 (zu HK).col0)
    rw [zft] at HL
    have HF5 := zh f5
    clear h5 f5 HR
    go_wp2_with fail
    refine (zu HL).mono ?_
    rintro e wa ⟨rfl, ⟨gva, rva, bva, ha⟩, fa⟩
    have HFA := zh (Fr.tr (Fr.of_ext (Ext.refl w).drew) (Fr.tr (zu HF5) fa))
    have HA : Hid (zab wa F base X d1 gva rva hv bva) := zh (by rw [hd1]; unfold SD.wrapL; rw [if_pos (.inl hl)]; exact ha)
    clear ha fa HL HF5 hd1
  case' inr.inl =>
    rw [hl] at c5
    have hcb : (d.col == d.cols - 1) = true := by simp [hcc]
    go_enter Tryz.func106, Tryz.ntmps106
    go_wp2_with fail
    go_region
    have HR := zh (zbx w.drew ⟨_, _, _, (zu H).ext (Ext.refl w).drew⟩)
    clear c0 c4 c5 H
    go_wp2_with fail
    refine (zu HR).mono ?_
    rintro e w5 ⟨rfl, h5, f5⟩
    have HL := zh (zct w5 h5 (zu HK).col0)
    rw [zft] at HL
    have HF5 := zh f5
    clear h5 f5 HR
    go_wp2_with fail
    refine (zu HL).mono ?_
    rintro e wa ⟨rfl, ⟨gva, rva, bva, ha⟩, fa⟩
    have HFA := zh (Fr.tr (Fr.of_ext (Ext.refl w).drew) (Fr.tr (zu HF5) fa))
    have HA : Hid (zab wa F base X d1 gva rva hv bva) := zh (by rw [hd1]; unfold SD.wrapL; rw [if_pos (.inr ⟨rfl, hcc⟩)]; exact ha)
    clear ha fa HL HF5 hd1
  case' inr.inr =>
    rw [hl] at c5
    have hcb : (d.col == d.cols - 1) = false := by simp [hcc]
    go_enter Tryz.func106, Tryz.ntmps106
    go_wp2_with fail
    go_region
    obtain ⟨wa, hwa⟩ : ∃ wa, wa = w.drew := ⟨_, rfl⟩
    have HA : Hid (zab wa F base X d1 gv rv hv bv) := zh (by rw [hd1, hwa]; unfold SD.wrapL; rw [if_neg (by rw [hl]; simp; omega)]; exact (zu H).ext (Ext.refl w).drew)
    have HFA : Hid (FrW F base X w wa) := zh (by rw [hwa]; exact Fr.of_ext (Ext.refl w).drew)
    rw [← hwa]
    generalize gv = gva at *
    generalize rv = rva at *
    generalize bv = bva at *
    clear c0 c4 c5 H hd1 hwa
  all_goals
    have ok1 := (zu HD1).1
    have hs1 := zae ok1
    have hrow1 := ok1.row
    have hcol1 := ok1.col
    have hle1 := (zu HD1).2
    obtain ⟨i0, ei0⟩ : ∃ i0 : Nat, d1.row = i0 := ⟨d1.row.toNat, by omega⟩
    obtain ⟨j0, ej0⟩ : ∃ j0 : Nat, d1.col = j0 := ⟨d1.col.toNat, by omega⟩
    have hiR : i0 < d1.R := by have := ok1.R; omega
    have hCi := ok1.C i0 hiR
    have hjC : j0 + 2 ≤ d1.C i0 := by omega
    have HLoop : Hid (zab wa F base X (d1.clrTo i0 j0 (j0 + 0)) gva rva hv bva) := zh (by unfold SD.clrTo; rw [if_pos (by omega)]; exact zu HA)
    obtain ⟨g, cap, hg, _, _, _, _⟩ := (zu HA).cellOf i0 j0 hiR (by omega)
    have HG := zh hg
    have HOK1 := zh ok1
    have hC200 : d1.C i0 ≤ 200 := by omega
    clear hg ok1
    go_wp2_with fail
    go_loopw [32] (fun i wr => ∃ k : Nat, k ≤ 2 ∧ i = .int .i64 k ∧ Hid (zab wr F base X (d1.clrTo i0 j0 (j0 + k)) gva rva hv bva) ∧ Hid (FrW F base X w wr)) (fun i _ => 2 - (intOf i).toNat)
    case atStart => exact ⟨0, Nat.zero_le _, rfl, HLoop, HFA⟩
    case round =>
      clear HLoop HFA
      obtain ⟨k, hk1, rfl, HK, HF⟩ := hrel
      obtain ⟨q1, q2, q3⟩ := zcF d1 i0 j0 (j0 + k)
      have c3 : wr.cell? ⟨F, 3, none⟩ = some (.int .i64 (i0 : Int)) := by have h9 := zg (zu HK).box 3 _ rfl; rw [← ei0, ← (zbK d1 i0 j0 (j0 + k)).1]; exact h9
      have c4 : wr.cell? ⟨F, 4, none⟩ = some (.int .i64 (j0 : Int)) := by have h9 := zg (zu HK).box 4 _ rfl; rw [← ej0, ← (zbK d1 i0 j0 (j0 + k)).2]; exact h9
      by_cases hlt : k < 2
      · have b1 : (k : Int) < 2 := by omega
        have wjk : IntKind.i64.wrap ((j0 : Int) + (k : Int)) = (j0 : Int) + (k : Int) := by rw [IntKind.wrap_i64] <;> omega
        have hcall : ∀ W9, Ext wr W9 → Calls Tryz.prog 164 #[.pointer (some ⟨F, 0, none⟩), .int .i64 (i0 : Int), .int .i64 ((j0 : Int) + (k : Int))] W9 fun e w' => e = .returned (.tuple #[]) ∧ zab w' F base X (d1.clrTo i0 j0 (j0 + k + 1)) gva rva hv bva ∧ Fr (fun q => (rva i0).ownBlock = some q) W9 w' := fun W9 hW9 => by
          have h9 := zfw W9 ((zu HK).ext hW9) i0 (j0 + k) (by rw [q1]; exact hiR) (by rw [q2]; omega) (by rw [q2, q3]; exact hCi) (fun hh => by
            rcases Nat.eq_zero_or_pos k with e | e
            · subst e
              unfold SD.clrTo at hh
              rw [if_pos (by omega)] at hh
              exact ((zu HOK1).half i0 (j0 + 0) hiR (by omega) hh).2.1
            · omega) (by rw [q2]; exact hC200)
          rw [zeK d1 i0 j0 (j0 + k) (by omega) (by omega), show ((j0 + k : Nat) : Int) = (j0 : Int) + (k : Int) by omega] at h9
          exact h9
        have HCall := zh hcall
        clear hcall q1 q2 q3
        go_wp2_with fail
        go_region_held3 (fun W => W.cell? ⟨F, 3, none⟩ = some (.int .i64 (i0 : Int)) ∧ W.cell? ⟨F, 4, none⟩ = some (.int .i64 (j0 : Int))) (first | exact ⟨c3, c4⟩ | exact ⟨e3, e4⟩) (first
          | (go_at_call 164
             refine ((zu HCall) _ (Ext.refl wr).drew).mono ?_
             rintro e w1 ⟨rfl, h1, f1⟩
             have e3 : w1.cell? ⟨F, 3, none⟩ = some (.int .i64 (i0 : Int)) := (by have h9 := zg h1.box 3 _ rfl; rw [← ei0, ← (zbK d1 i0 j0 (j0 + k + 1)).1]; exact h9)
             have e4 : w1.cell? ⟨F, 4, none⟩ = some (.int .i64 (j0 : Int)) := (by have h9 := zg h1.box 4 _ rfl; rw [← ej0, ← (zbK d1 i0 j0 (j0 + k + 1)).2]; exact h9)
             have HS2 := zh h1
             have HF2 := zh (Fr.tr (zu HF) (Fr.tr (Fr.of_ext (Ext.refl wr).drew) (((zu HK).ext (Ext.refl wr).drew).rowFr i0 (by rw [(zcF d1 i0 j0 (j0 + k)).1]; exact hiR) f1)))
             clear h1 f1))
        go_wp2
        go_roundw
        case rel => exact ⟨k + 1, by omega, by go_num, HS2, HF2⟩
        case measure => simp [intOf]; omega
      · obtain rfl : k = 2 := by omega
        have hb : ¬ ((2 : Nat) : Int) < 2 := by omega
        clear q1 q2 q3
        have HB : Hid (zab wr F base X (d1.clr i0 j0 (j0 + 2)) gva rva hv bva) := zh (by have := zu HK; unfold SD.clrTo at this; rw [if_neg (by omega)] at this; exact this)
        clear HK
        have HCn := zh (fun W9 (hW9 : Ext wr W9) => zao W9 ((zu HB).ext hW9) i0 j0 g cap hiR (by show j0 < d1.C i0; omega) (zu HG))
        go_wp2_with fail
        first
          | (go_region_held3 (fun W => W.cell? ⟨F, 3, none⟩ = some (.int .i64 (i0 : Int)) ∧ W.cell? ⟨F, 4, none⟩ = some (.int .i64 (j0 : Int))) (first | exact ⟨c3, c4⟩ | exact ⟨e3, e4⟩ | exact ⟨p3, p4⟩) (first
              | (go_at_call 163
                 refine ((zu HCn) _ (Ext.refl wr).drew).mono ?_
                 rintro e w2 ⟨rfl, E2⟩
                 have H2 := zh ((zu HB).ext ((Ext.refl wr).drew.trans E2))
                 have HF2 := zh (Fr.tr (zu HF) (Fr.of_ext ((Ext.refl wr).drew.trans E2)))
                 obtain ⟨g', cap', e', b1, b2, b3, b4⟩ := (zu H2).cellOf i0 j0 hiR (by show j0 < d1.C i0; omega)
                 rw [zu HG] at e'
                 simp only [Value.slice.injEq, Option.some.injEq, Addr.mk.injEq, and_true] at e'
                 rw [← e'.1] at b1 b2 b3 b4
                 clear e' E2
                 have e3 : w2.cell? ⟨F, 3, none⟩ = some (.int .i64 (i0 : Int)) := (by rw [← ei0]; exact zg (zu H2).box 3 _ rfl)
                 have e4 : w2.cell? ⟨F, 4, none⟩ = some (.int .i64 (j0 : Int)) := (by rw [← ej0]; exact zg (zu H2).box 4 _ rfl)
                 have hset := (zu H2).setT1 i0 j0 g cap hiR (by show j0 < d1.C i0; omega) (zu HG) (Utf8.encode r)
                 have p3 : (w2.setCell ⟨g, j0 * 2, none⟩ (.string (Utf8.encode r))).cell? ⟨F, 3, none⟩ = some (.int .i64 (i0 : Int)) := (by rw [← ei0]; exact zg hset.1.box 3 _ rfl)
                 have p4 : (w2.setCell ⟨g, j0 * 2, none⟩ (.string (Utf8.encode r))).cell? ⟨F, 4, none⟩ = some (.int .i64 (j0 : Int)) := (by rw [← ej0]; exact zg hset.1.box 4 _ rfl)
                 have HP1 := zh hset
                 clear hset))
             )
          | fail
        obtain ⟨W3, hW3⟩ : ∃ W3, W3 = w2.setCell ⟨g, j0 * 2, none⟩ (.string (Utf8.encode r)) := ⟨_, rfl⟩
        rw [← hW3] at HP1 p3 p4 ⊢
        have H3 := zh (zu HP1).1
        have HF3 := zh (Fr.tr (zu HF2) ((zu H2).rowFr i0 hiR (zu HP1).2))
        clear HP1 hW3 b1 b2 b3 b4 e3 e4 H2 HF2 HCn HB HF c3 c4 p3 p4
        have c0 := zg (zu H3).box 0 _ rfl
        have c4 : W3.cell? ⟨F, 4, none⟩ = some (.int .i64 (j0 : Int)) := by rw [← ej0]; exact zg (zu H3).box 4 _ rfl
        have f4 : W3.frozen? ⟨F, 4, none⟩ = false := Lib.frozen_of_heap (zu H3).box 4
        have c3 : W3.cell? ⟨F, 3, none⟩ = some (.int .i64 (i0 : Int)) := by rw [← ei0]; exact zg (zu H3).box 3 _ rfl
        have wj1 : IntKind.i64.wrap ((j0 : Int) + 1) = (j0 : Int) + 1 := by rw [IntKind.wrap_i64] <;> omega
        have hcm : ∀ W9, Ext W3 W9 → Calls Tryz.prog 163 #[.pointer (some ⟨F, 0, none⟩), .int .i64 (i0 : Int), .int .i64 ((j0 : Int) + 1)] W9 fun e w' => e = .returned (.pointer (some ⟨g, (j0 + 1) * 2, none⟩)) ∧ Ext W9 w' := fun W9 hW9 => by
          have h9 := zao W9 ((zu H3).ext hW9) i0 (j0 + 1) g cap hiR (by show j0 + 1 < d1.C i0; omega) (zu HG)
          rw [show ((j0 + 1 : Nat) : Int) = (j0 : Int) + 1 by omega] at h9
          exact h9
        have HCm := zh hcm
        clear hcm
        go_wp2_with fail
        first
          | (go_region_held3 (fun W => W.cell? ⟨F, 3, none⟩ = some (.int .i64 (i0 : Int)) ∧ W.cell? ⟨F, 4, none⟩ = some (.int .i64 (j0 : Int))) (first | exact ⟨c3, c4⟩ | exact ⟨e3, e4⟩ | exact ⟨p3, p4⟩) (first
              | (go_at_call 163
                 refine ((zu HCm) _ (Ext.refl W3).drew).mono ?_
                 rintro e w4 ⟨rfl, E4⟩
                 have H4 := zh ((zu H3).ext ((Ext.refl W3).drew.trans E4))
                 have HF4 := zh (Fr.tr (zu HF3) (Fr.of_ext ((Ext.refl W3).drew.trans E4)))
                 obtain ⟨g', cap', e', b1, b2, b3, b4⟩ := (zu H4).cellOf i0 (j0 + 1) hiR (by show j0 + 1 < d1.C i0; omega)
                 rw [zu HG] at e'
                 simp only [Value.slice.injEq, Option.some.injEq, Addr.mk.injEq, and_true] at e'
                 rw [← e'.1] at b1 b2 b3 b4
                 clear e' E4
                 have e3 : w4.cell? ⟨F, 3, none⟩ = some (.int .i64 (i0 : Int)) := (by rw [← ei0]; exact zg (zu H4).box 3 _ rfl)
                 have e4 : w4.cell? ⟨F, 4, none⟩ = some (.int .i64 (j0 : Int)) := (by rw [← ej0]; exact zg (zu H4).box 4 _ rfl)
                 have hset := (zu H4).setH1 i0 (j0 + 1) g cap hiR (by show j0 + 1 < d1.C i0; omega) (zu HG)
                 have p3 : (w4.setCell ⟨g, (j0 + 1) * 2 + 1, none⟩ (.bool true)).cell? ⟨F, 3, none⟩ = some (.int .i64 (i0 : Int)) := (by rw [← ei0]; exact zg hset.1.box 3 _ rfl)
                 have p4 : (w4.setCell ⟨g, (j0 + 1) * 2 + 1, none⟩ (.bool true)).cell? ⟨F, 4, none⟩ = some (.int .i64 (j0 : Int)) := (by rw [← ej0]; exact zg hset.1.box 4 _ rfl)
                 have HP1 := zh hset
                 clear hset))
             )
          | fail
        obtain ⟨W5, hW5⟩ : ∃ W5, W5 = w4.setCell ⟨g, (j0 + 1) * 2 + 1, none⟩ (.bool true) := ⟨_, rfl⟩
        rw [← hW5] at HP1 p3 p4 ⊢
        have H5 := zh (zu HP1).1
        have HF5 := zh (Fr.tr (zu HF4) ((zu H4).rowFr i0 hiR (zu HP1).2))
        clear HP1 hW5 b1 b2 b3 b4 e3 e4 H4 HF4 HCm H3 HF3 c0 c3 c4 f4 p3 p4
        have c0 := zg (zu H5).box 0 _ rfl
        have c4 : W5.cell? ⟨F, 4, none⟩ = some (.int .i64 (j0 : Int)) := by rw [← ej0]; exact zg (zu H5).box 4 _ rfl
        have f4 : W5.frozen? ⟨F, 4, none⟩ = false := Lib.frozen_of_heap (zu H5).box 4
        have wjw : IntKind.i64.wrap ((j0 : Int) + 2) = (j0 : Int) + 2 := by rw [IntKind.wrap_i64] <;> omega
        have wcm : IntKind.i64.wrap (d1.cols - 1) = d1.cols - 1 := by rw [IntKind.wrap_i64] <;> omega
        obtain ⟨d2, hd2⟩ : ∃ x, x = d1.put2 (Utf8.encode r) 2 := ⟨_, rfl⟩
        have HS2 : Hid (zab W5 F base X d2 gva rva hv bva) := zh (by
          have h9 := zu H5
          rw [hd2]
          unfold SD.put2 SD.put1
          rw [if_pos rfl, ei0, ej0, Int.toNat_natCast, Int.toNat_natCast]
          exact h9)
        have hrest := zfG d1 (Utf8.encode r) 2
        rw [← hd2] at hrest
        obtain ⟨U, hU⟩ : ∃ U, U = W5.setCell ⟨F, 4, none⟩ (.int .i64 ((j0 : Int) + 2)) := ⟨_, rfl⟩
        have fU : Fr (fun k => k = F) W5 U := by rw [hU]; exact Fr.setCell (S := fun k => k = F) (Fr.refl _ _) (a := ⟨F, 4, none⟩) rfl _
        have hSU := (zu HS2).head fU d2.row ((j0 : Int) + 2) d2.late (by rw [hU]; exact zj (zu HS2).box rfl)
        have HU := zh hU
        have HSU := zh hSU
        have HFU := zh (Fr.tr (zu HF5) (fU.mono (fun k hk => .inl hk)))
        have u0 : U.cell? ⟨F, 0, none⟩ = some (.int .i64 d1.cols) := by rw [← hrest.1]; exact zg hSU.box 0 _ rfl
        have u4 := zg hSU.box 4 _ rfl
        clear hU fU hSU H5 HF5
        go_wp2_with fail
        rw [← zu HU]
        clear c0 c4 f4 HU
        go_region_held3 (fun W => W.cell? ⟨F, 4, none⟩ = some (.int .i64 ((j0 : Int) + 2)) ∧ W.cell? ⟨F, 0, none⟩ = some (.int .i64 d1.cols)) (first | exact ⟨u4, u0⟩) (first | fail)
        have HSV := zh ((zu HSU).ext (Ext.refl U).drew)
        have HFV := zh (Fr.tr (zu HFU) (Fr.of_ext (Ext.refl U).drew))
        generalize U.drew = V at *
        clear HSU HFU u0 u4
        have v0 : V.cell? ⟨F, 0, none⟩ = some (.int .i64 d1.cols) := by rw [← hrest.1]; exact zg (zu HSV).box 0 _ rfl
        have v4 := zg (zu HSV).box 4 _ rfl
        have v5 := zg (zu HSV).box 5 _ rfl
        have x4 : V.frozen? ⟨F, 4, none⟩ = false := Lib.frozen_of_heap (zu HSV).box 4
        have x5 : V.frozen? ⟨F, 5, none⟩ = false := Lib.frozen_of_heap (zu HSV).box 5
        by_cases hfull : d1.cols ≤ (j0 : Int) + 2
        · have HE3 : Hid (d1.put3 (Utf8.encode r) 2 = { d2 with col := d1.cols - 1, late := true }) := zh (by unfold SD.put3; rw [if_pos (by rw [ej0]; exact hfull), ← hd2])
          go_wp2
          go_end0
          have fs : Fr (fun k => k = F) V ((V.setCell ⟨F, 4, none⟩ (.int .i64 (d1.cols - 1))).setCell ⟨F, 5, none⟩ (.bool true)) := Fr.setCell (S := fun k => k = F) (Fr.setCell (S := fun k => k = F) (Fr.refl _ V) (a := ⟨F, 4, none⟩) rfl _) (a := ⟨F, 5, none⟩) rfl _
          have hfin := (zu HSV).head fs d2.row (d1.cols - 1) true (zj (zj (zu HSV).box rfl) rfl)
          refine ⟨rfl, ⟨gva, rva, bva, ?_⟩, Fr.tr (zu HFV) (fs.mono (fun k hk => .inl hk))⟩
          unfold SD.put
          rw [← zbc, ← zu HDE, zu HE3]
          exact hfin
        · have HE3 : Hid (d1.put3 (Utf8.encode r) 2 = { d2 with col := d1.col + 2 }) := zh (by unfold SD.put3; rw [if_neg (by rw [ej0]; exact hfull), ← hd2])
          go_wp2
          go_end0
          refine ⟨rfl, ⟨gva, rva, bva, ?_⟩, zu HFV⟩
          unfold SD.put
          rw [← zbc, ← zu HDE, zu HE3, ej0]
          exact zu HSV
end
structure zcn (d : SD) (c : Nat) (T : List Int) : Prop where
 ok : OkP d
 le : (c : Int) ≤ d.cols
 col : (c : Int) < d.cols → d.col = c ∧ d.late = false
 full : (c : Int) = d.cols → d.col = d.cols - 1 ∧ d.late = true
 blank : ∀ q, c ≤ q → d.tx d.row.toNat q = bz ∧ d.hf d.row.toNat q = false
 text : zbm (d.tx d.row.toNat) (d.hf d.row.toNat) c = T
 last : 0 < c → d.hf d.row.toNat (c - 1) = true ∨ (d.tx d.row.toNat (c - 1)).toList ≠ []
structure zcc (d d' : SD) : Prop where
 cols : d'.cols = d.cols
 rows : d'.rows = d.rows
 row : d'.row = d.row
 R : d'.R = d.R
 C : d'.C = d.C
 nb : d'.nb = d.nb
 bk : d'.bk = d.bk
 hold : d'.hold = d.hold
 tx : ∀ p, p ≠ d.row.toNat → d'.tx p = d.tx p
 hf : ∀ p, p ≠ d.row.toNat → d'.hf p = d.hf p
theorem zcc.refl (d : SD) : zcc d d := ⟨rfl, rfl, rfl, rfl, rfl, rfl, rfl, rfl, fun _ _ => rfl, fun _ _ => rfl⟩
theorem zcc.trans {a b c : SD} (h : zcc a b) (k : zcc b c) : zcc a c :=
 ⟨k.cols.trans h.cols, k.rows.trans h.rows, k.row.trans h.row, k.R.trans h.R, k.C.trans h.C, k.nb.trans h.nb, k.bk.trans h.bk, k.hold.trans h.hold, fun p hp => (k.tx p (by rw [h.row]; exact hp)).trans (h.tx p hp), fun p hp => (k.hf p (by rw [h.row]; exact hp)).trans (h.hf p hp)⟩
theorem zdC {tx tx' : Nat → ByteArray} {hf hf' : Nat → Bool} : ∀ (n : Nat), (∀ q, q < n → tx q = tx' q ∧ hf q = hf' q) → zbm tx hf n = zbm tx' hf' n
 | 0, _ => rfl
 | n + 1, h => by rw [zbm, zbm, zdC n (fun q hq => h q (by omega)), (h n (by omega)).1, (h n (by omega)).2]
theorem zce {t : ByteArray} (h : t.toList ≠ []) : zcC t false = baL t := by
 unfold zcC
 simp [h]
theorem zeN (t : ByteArray) : zcC t true = [] := by
 unfold zcC
 simp
theorem ziw {d : SD} (i a b : Nat) (hab : a ≤ b) (h : ∀ q, a ≤ q → d.tx i q = bz ∧ d.hf i q = false) : d.clr i a b = d := by
 unfold SD.clr
 have hb : ∀ q, za6 d i a b q = true → a ≤ q := fun q hq => by
  rcases za0.1 hq with h1 | ⟨_, h1⟩ | ⟨h1, _, h2⟩
  ·exact h1.1
  ·rw [(h a (Nat.le_refl _)).2] at h1; cases h1
  ·omega
 have h1 : (fun p q => if p = i ∧ za6 d i a b q = true then bz else d.tx p q) = d.tx := by
  funext p q
  split
  ·rename_i hc
   rw [hc.1, (h q (hb q hc.2)).1]
  ·rfl
 have h2 : (fun p q => if p = i ∧ za6 d i a b q = true then false else d.hf p q) = d.hf := by
  funext p q
  split
  ·rename_i hc
   rw [hc.1, (h q (hb q hc.2)).2]
  ·rfl
 rw [h1, h2]
theorem zdy {r : Int} : (zo (zac r)).toList ≠ [] := zf3 (ziZ r)
theorem zcY (r : Int) : zv (zac r) := by
 by_cases hv : Utf8.valid r = true
 ·intro n hn
  rw [zac, if_pos hv] at hn
  have hb := zbV hv
  unfold zbd at hn
  (repeat' split at hn) <;> simp at hn <;> omega
 ·intro n hn
  rw [zac, if_neg hv] at hn
  simp at hn
  omega
theorem zoZ {d : SD} {c : Nat} {T : List Int} (h : zcn d c T) (r : Int) (hct : ¬ (r < 32 ∨ (127 ≤ r ∧ r ≤ 159))) (hw : wid r = 1) (hc : (c : Int) + 1 ≤ d.cols) :
  zcn (d.shw zp r) (c + 1) (T ++ zac r) ∧ zcc d (d.shw zp r) := by
 obtain ⟨hcol, hlate⟩ := h.col (by omega)
 have hs := zae h.ok
 have e1 : d.shw zp r = d.put zp (zo (zac r)) 1 := by
  unfold SD.shw
  rw [if_neg (by omega), if_neg (by omega), if_neg hct, hw, if_neg (by decide)]
 have e2 : d.wrapL zp 1 = d := by unfold SD.wrapL; rw [if_neg (by rw [hlate]; simp)]
 have hct' : d.col.toNat = c := by omega
 have e3 : d.put1 (zo (zac r)) 1 = d.setT d.row.toNat c (zo (zac r)) := by
  unfold SD.put1
  rw [hct', show (1 : Int).toNat = 1 from rfl, ziw d.row.toNat c (c + 1) (by omega) h.blank]
 have e4 : d.put2 (zo (zac r)) 1 = d.setT d.row.toNat c (zo (zac r)) := by unfold SD.put2; rw [if_neg (by decide), e3]
 have hok' : OkP (d.shw zp r) := zhx zp h.ok r
 have e5 : d.shw zp r = if d.cols ≤ d.col + 1 then { d.setT d.row.toNat c (zo (zac r)) with col := d.cols - 1, late := true } else { d.setT d.row.toNat c (zo (zac r)) with col := d.col + 1 } := by
  rw [e1]
  unfold SD.put
  rw [e2]
  unfold SD.put3
  rw [e4]
 have htx : (d.shw zp r).tx = (d.setT d.row.toNat c (zo (zac r))).tx := by rw [e5]; split <;> rfl
 have hhf : (d.shw zp r).hf = d.hf := by rw [e5]; split <;> rfl
 have hrow : (d.shw zp r).row = d.row := by rw [e5]; split <;> rfl
 have hcols : (d.shw zp r).cols = d.cols := by rw [e5]; split <;> rfl
 have htxq : ∀ q, (d.shw zp r).tx d.row.toNat q = if q = c then zo (zac r) else d.tx d.row.toNat q := fun q => by
  rw [htx]
  show (if d.row.toNat = d.row.toNat ∧ q = c then zo (zac r) else d.tx d.row.toNat q) = _
  simp
 refine ⟨⟨hok', by rw [hcols]; omega, ?_, ?_, ?_, ?_, ?_⟩, ?_⟩
 ·intro hlt
  rw [hcols] at hlt
  rw [e5, if_neg (by omega)]
  exact ⟨by show d.col + 1 = _; omega, hlate⟩
 ·intro hlt
  rw [hcols] at hlt
  rw [e5, if_pos (by omega)]
  exact ⟨rfl, rfl⟩
 ·intro q hq
  rw [hrow, htxq q, if_neg (by omega), hhf]
  exact h.blank q (by omega)
 ·rw [hrow, zbm, htxq c, if_pos rfl, hhf, (h.blank c (Nat.le_refl _)).2, zce zdy, zdp (zcY r)]
  congr 1
  rw [← h.text]
  exact zdC c (fun q hq => ⟨by rw [htxq q, if_neg (by omega)], rfl⟩)
 ·intro _
  right
  rw [hrow, Nat.add_sub_cancel, htxq c, if_pos rfl]
  exact zdy
 ·refine ⟨hcols, ?_, hrow, ?_, ?_, ?_, ?_, ?_, fun p hp => ?_, fun p hp => by rw [hhf]⟩
  all_goals first | (rw [e5]; split <;> rfl) | skip
  funext q
  rw [htx]
  show (if p = d.row.toNat ∧ q = c then zo (zac r) else d.tx p q) = _
  rw [if_neg (fun e => hp e.1)]
theorem znG {d : SD} {c : Nat} {T : List Int} (h : zcn d c T) (r : Int) (hct : ¬ (r < 32 ∨ (127 ≤ r ∧ r ≤ 159))) (hw : wid r = 2) (hc : (c : Int) + 2 ≤ d.cols) :
  zcn (d.shw zp r) (c + 2) (T ++ zac r) ∧ zcc d (d.shw zp r) := by
 obtain ⟨hcol, hlate⟩ := h.col (by omega)
 have hs := zae h.ok
 have e1 : d.shw zp r = d.put zp (zo (zac r)) 2 := by
  unfold SD.shw
  rw [if_neg (by omega), if_neg (by omega), if_neg hct, hw, if_neg (by decide)]
 have e2 : d.wrapL zp 2 = d := by unfold SD.wrapL; rw [if_neg (by rw [hlate, hcol]; simp; omega)]
 have hct' : d.col.toNat = c := by omega
 have e3 : d.put1 (zo (zac r)) 2 = d.setT d.row.toNat c (zo (zac r)) := by
  unfold SD.put1
  rw [hct', show (2 : Int).toNat = 2 from rfl, ziw d.row.toNat c (c + 2) (by omega) h.blank]
 have e4 : d.put2 (zo (zac r)) 2 = (d.setT d.row.toNat c (zo (zac r))).setH d.row.toNat (c + 1) := by unfold SD.put2; rw [if_pos rfl, e3, hct']
 have hok' : OkP (d.shw zp r) := zhx zp h.ok r
 have e5 : d.shw zp r = if d.cols ≤ d.col + 2 then { (d.setT d.row.toNat c (zo (zac r))).setH d.row.toNat (c + 1) with col := d.cols - 1, late := true } else { (d.setT d.row.toNat c (zo (zac r))).setH d.row.toNat (c + 1) with col := d.col + 2 } := by
  rw [e1]
  unfold SD.put
  rw [e2]
  unfold SD.put3
  rw [e4]
 have htx : (d.shw zp r).tx = (d.setT d.row.toNat c (zo (zac r))).tx := by rw [e5]; split <;> rfl
 have hhf : (d.shw zp r).hf = (d.setH d.row.toNat (c + 1)).hf := by rw [e5]; split <;> rfl
 have hrow : (d.shw zp r).row = d.row := by rw [e5]; split <;> rfl
 have hcols : (d.shw zp r).cols = d.cols := by rw [e5]; split <;> rfl
 have htxq : ∀ q, (d.shw zp r).tx d.row.toNat q = if q = c then zo (zac r) else d.tx d.row.toNat q := fun q => by
  rw [htx]
  show (if d.row.toNat = d.row.toNat ∧ q = c then zo (zac r) else d.tx d.row.toNat q) = _
  simp
 have hhfq : ∀ q, (d.shw zp r).hf d.row.toNat q = if q = c + 1 then true else d.hf d.row.toNat q := fun q => by
  rw [hhf]
  show (if d.row.toNat = d.row.toNat ∧ q = c + 1 then true else d.hf d.row.toNat q) = _
  simp
 refine ⟨⟨hok', by rw [hcols]; omega, ?_, ?_, ?_, ?_, ?_⟩, ?_⟩
 ·intro hlt
  rw [hcols] at hlt
  rw [e5, if_neg (by omega)]
  exact ⟨by show d.col + 2 = _; omega, hlate⟩
 ·intro hlt
  rw [hcols] at hlt
  rw [e5, if_pos (by omega)]
  exact ⟨rfl, rfl⟩
 ·intro q hq
  rw [hrow, htxq q, if_neg (by omega), hhfq q, if_neg (by omega)]
  exact h.blank q (by omega)
 ·rw [hrow, show c + 2 = c + 1 + 1 from rfl, zbm, zbm, htxq c, if_pos rfl, hhfq c, if_neg (by omega), hhfq (c + 1), if_pos rfl, (h.blank c (Nat.le_refl _)).2, zce zdy, zdp (zcY r), zeN, List.append_nil]
  congr 1
  rw [← h.text]
  exact zdC c (fun q hq => ⟨by rw [htxq q, if_neg (by omega)], by rw [hhfq q, if_neg (by omega)]⟩)
 ·intro _
  left
  rw [hrow, show c + 2 - 1 = c + 1 by omega, hhfq, if_pos rfl]
 ·refine ⟨hcols, ?_, hrow, ?_, ?_, ?_, ?_, ?_, fun p hp => ?_, fun p hp => ?_⟩
  all_goals first | (rw [e5]; split <;> rfl) | skip
  ·funext q
   rw [htx]
   show (if p = d.row.toNat ∧ q = c then zo (zac r) else d.tx p q) = _
   rw [if_neg (fun e => hp e.1)]
  ·funext q
   rw [hhf]
   show (if p = d.row.toNat ∧ q = c + 1 then true else d.hf p q) = _
   rw [if_neg (fun e => hp e.1)]
theorem zmn (a b : ByteArray) : baL (a ++ b) = baL a ++ baL b := by
 unfold baL
 simp
theorem zmz {d : SD} {c : Nat} {T : List Int} (h : zcn d c T) (r : Int) (hct : ¬ (r < 32 ∨ (127 ≤ r ∧ r ≤ 159))) (hw : wid r = 0) (hc : 0 < c) (hT : T.length ≤ 6000) :
  zcn (d.shw zp r) c (T ++ zac r) ∧ zcc d (d.shw zp r) := by
 have hs := zae h.ok
 have hrw := h.ok.row
 have hR := h.ok.R
 have hle := h.le
 have hiR : d.row.toNat < d.R := by omega
 have hCi := h.ok.C d.row.toNat hiR
 have e1 : d.shw zp r = d.mark (zo (zac r)) := by
  unfold SD.shw
  rw [if_neg (by omega), if_neg (by omega), if_neg hct, if_pos hw]
 have eA : d.mkAt = (c : Int) - 1 := by
  unfold SD.mkAt
  by_cases hlt : (c : Int) < d.cols
  ·obtain ⟨g1, g2⟩ := h.col hlt
   rw [g2, g1]
   simp
  ·obtain ⟨g1, g2⟩ := h.full (by omega)
   rw [g2, g1, if_pos rfl]
   omega
 have eN : d.mkAt.toNat = c - 1 := by omega
 obtain ⟨j, hj⟩ : ∃ j, j = d.mkAt2 := ⟨_, rfl⟩
 have hj2 : j = if d.hf d.row.toNat (c - 1) = true then c - 1 - 1 else c - 1 := by rw [hj]; unfold SD.mkAt2; rw [eN]
 have hjf : (d.tx d.row.toNat j).toList ≠ [] ∧ d.hf d.row.toNat j = false ∧ j < c ∧ (j + 1 = c ∨ (j + 2 = c ∧ d.hf d.row.toNat (j + 1) = true)) := by
  by_cases hh : d.hf d.row.toNat (c - 1) = true
  ·rw [if_pos hh] at hj2
   obtain ⟨g1, g2, g3⟩ := h.ok.half d.row.toNat (c - 1) hiR (by omega) hh
   have hj3 : c - 1 - 1 = j := by omega
   rw [hj3] at g3
   refine ⟨g3, ?_, by omega, .inr ⟨by omega, by rw [show j + 1 = c - 1 by omega]; exact hh⟩⟩
   cases hf : d.hf d.row.toNat j with
   | false => rfl
   | true => exact absurd (h.ok.half d.row.toNat j hiR (by omega) hf).1 g3
  ·rw [if_neg hh] at hj2
   have hl := (h.last hc).resolve_left hh
   rw [← hj2] at hl
   exact ⟨hl, by rw [hj2]; simpa using hh, by omega, .inl (by omega)⟩
 obtain ⟨hne, hnf, hjc, hend⟩ := hjf
 have hTj : T = zbm (d.tx d.row.toNat) (d.hf d.row.toNat) j ++ baL (d.tx d.row.toNat j) := by
  rw [← h.text]
  rcases hend with e | ⟨e, ef⟩
  ·rw [← e, zbm, hnf, zce hne]
  ·rw [← e, show j + 2 = j + 1 + 1 from rfl, zbm, zbm, hnf, ef, zeN, List.append_nil, zce hne]
 have hsz : (d.tx d.row.toNat j).size ≤ 6000 := by
  have h9 := congrArg List.length hTj
  rw [List.length_append, zw] at h9
  omega
 have e2 : d.shw zp r = d.setT d.row.toNat j (d.tx d.row.toNat j ++ zo (zac r)) := by
  rw [e1]
  unfold SD.mark
  rw [if_neg (by omega), ← hj, if_pos ⟨hne, hsz⟩]
 have htxq : ∀ q, (d.shw zp r).tx d.row.toNat q = if q = j then d.tx d.row.toNat j ++ zo (zac r) else d.tx d.row.toNat q := fun q => by
  rw [e2]
  show (if d.row.toNat = d.row.toNat ∧ q = j then _ else d.tx d.row.toNat q) = _
  simp
 have hne2 : (d.tx d.row.toNat j ++ zo (zac r)).toList ≠ [] := zgp hne
 have hrow : (d.shw zp r).row = d.row := by rw [e2]; rfl
 have hhf : (d.shw zp r).hf = d.hf := by rw [e2]; rfl
 have hcols : (d.shw zp r).cols = d.cols := by rw [e2]; rfl
 have hcol : (d.shw zp r).col = d.col := by rw [e2]; rfl
 have hlate : (d.shw zp r).late = d.late := by rw [e2]; rfl
 have hpre : zbm ((d.shw zp r).tx d.row.toNat) ((d.shw zp r).hf d.row.toNat) j = zbm (d.tx d.row.toNat) (d.hf d.row.toNat) j := zdC j (fun q hq => ⟨by rw [htxq q, if_neg (by omega)], by rw [hhf]⟩)
 refine ⟨⟨zhx zp h.ok r, by rw [hcols]; exact hle, fun hlt => ?_, fun hlt => ?_, fun q hq => ?_, ?_, fun _ => ?_⟩, ?_⟩
 ·rw [hcols] at hlt
  rw [hcol, hlate]
  exact h.col hlt
 ·rw [hcols] at hlt
  rw [hcol, hlate, hcols]
  exact h.full hlt
 ·rw [hrow, htxq q, if_neg (by omega), hhf]
  exact h.blank q hq
 ·rw [hrow]
  rcases hend with e | ⟨e, ef⟩
  ·rw [← e, zbm, hpre, htxq j, if_pos rfl, hhf, hnf, zce hne2, zmn, zdp (zcY r), hTj, List.append_assoc]
  ·rw [← e, show j + 2 = j + 1 + 1 from rfl, zbm, zbm, hpre, htxq j, if_pos rfl, hhf, hnf, ef, zeN, List.append_nil, zce hne2, zmn, zdp (zcY r), hTj, List.append_assoc]
 ·rw [hrow, hhf]
  rcases hend with e | ⟨e, ef⟩
  ·right
   rw [show c - 1 = j by omega, htxq j, if_pos rfl]
   exact hne2
  ·left
   rw [show c - 1 = j + 1 by omega]
   exact ef
 ·refine ⟨hcols, by rw [e2]; rfl, hrow, by rw [e2]; rfl, by rw [e2]; rfl, by rw [e2]; rfl, by rw [e2]; rfl, by rw [e2]; rfl, fun p hp => ?_, fun p hp => by rw [hhf]⟩
  funext q
  rw [e2]
  show (if p = d.row.toNat ∧ q = j then _ else d.tx p q) = _
  rw [if_neg (fun e => hp e.1)]
def zcu : List Int → Int
 | [] => 0
 | r :: rs => wid r + zcu rs
theorem zf5 : ∀ rs, 0 ≤ zcu rs
 | [] => Int.le_refl _
 | r :: rs => by
  have := zf5 rs
  rcases zbM r with e | e | e <;> rw [zcu, e] <;> omega
theorem zes : ∀ (rs : List Int) {d : SD} {c : Nat} {T : List Int}, zcn d c T → (∀ r ∈ rs, za5 r) → (c : Int) + zcu rs ≤ d.cols → (T ++ zaO rs).length ≤ 6000 → (0 < c ∨ ∀ r, rs.head? = some r → 0 < wid r) →
  ∃ c' : Nat, (c' : Int) = (c : Int) + zcu rs ∧ zcn (d.acts zp (rs.map zby.shw)) c' (T ++ zaO rs) ∧ zcc d (d.acts zp (rs.map zby.shw))
 | [], d, c, T, h, _, _, _, _ => ⟨c, by simp [zcu], by simpa [zaO, SD.acts] using h, zcc.refl d⟩
 | r :: rs, d, c, T, h, hcl, hw, hl, hh => by
  have hr := hcl r (by simp)
  have hct : ¬ (r < 32 ∨ (127 ≤ r ∧ r ≤ 159)) := by
   rintro (g | g)
   ·exact absurd hr.2.1 (by omega)
   ·exact hr.2.2 g
  have hnn := zf5 rs
  rw [zcu] at hw
  have hle : zaO (r :: rs) = zac r ++ zaO rs := by simp [zaO]
  rw [hle] at hl ⊢
  rw [← List.append_assoc] at hl ⊢
  have hlT : T.length ≤ 6000 := by simp at hl; omega
  have step : ∃ c1 : Nat, (c1 : Int) = (c : Int) + wid r ∧ zcn (d.shw zp r) c1 (T ++ zac r) ∧ zcc d (d.shw zp r) := by
   rcases zbM r with e | e | e
   ·have hc0 : 0 < c := hh.elim id (fun g => by have := g r rfl; omega)
    obtain ⟨g1, g2⟩ := zmz h r hct e hc0 hlT
    exact ⟨c, by omega, g1, g2⟩
   ·obtain ⟨g1, g2⟩ := zoZ h r hct e (by omega)
    exact ⟨c + 1, by omega, g1, g2⟩
   ·obtain ⟨g1, g2⟩ := znG h r hct e (by omega)
    exact ⟨c + 2, by omega, g1, g2⟩
  obtain ⟨c1, ec, h1, s1⟩ := step
  have hpos : 0 < c1 ∨ ∀ r', rs.head? = some r' → 0 < wid r' := by
   left
   rcases hh with g | g
   ·rcases zbM r with e | e | e <;> omega
   ·have := g r rfl
    omega
  obtain ⟨c', e', h', s'⟩ := zes rs h1 (fun x hx => hcl x (by simp [hx])) (by rw [s1.cols, ec]; omega) hl hpos
  refine ⟨c', by rw [e', ec, zcu]; omega, h', s1.trans s'⟩
theorem zo5 {r : Int} (hv : Utf8.valid r = true) (h27 : r ≠ 27) (t : List Int) : at0 (zac r ++ t) 0 ≠ 27 ∧ zbp (at0 (zac r ++ t) 0) = (zac r).length := by
 have hr : zac r = zbd r := by rw [zac, if_pos hv]
 rw [hr]
 rcases zj5 hv with h | h | h | h
 ·rw [zbd, if_pos (by omega)]
  refine ⟨h27, ?_⟩
  show zbp r = 1
  unfold zbp
  rw [if_pos (by omega)]
 ·rw [zbd, if_neg (by omega), if_pos (by omega)]
  refine ⟨by show 192 + r / 64 ≠ 27; omega, ?_⟩
  show zbp (192 + r / 64) = 2
  unfold zbp
  rw [if_neg (by omega), if_neg (by omega), if_pos (by omega)]
 ·rw [zbd, if_neg (by omega), if_neg (by omega), if_pos (by omega)]
  refine ⟨by show 224 + r / 4096 ≠ 27; omega, ?_⟩
  show zbp (224 + r / 4096) = 3
  unfold zbp
  rw [if_neg (by omega), if_neg (by omega), if_neg (by omega), if_pos (by omega)]
 ·rw [zbd, if_neg (by omega), if_neg (by omega), if_neg (by omega)]
  refine ⟨by show 240 + r / 262144 ≠ 27; omega, ?_⟩
  show zbp (240 + r / 262144) = 4
  unfold zbp
  rw [if_neg (by omega), if_neg (by omega), if_neg (by omega), if_neg (by omega)]
theorem zot {r : Int} (hv : Utf8.valid r = true) (h27 : r ≠ 27) (t : List Int) : (fd (zac r ++ t)).1 = .shw r :: (fd t).1 ∧ fdH (zac r ++ t) = fdH t := by
 have hd := zja r hv t
 have hp : 0 < (zac r).length := by
  rcases Nat.eq_zero_or_pos (zac r).length with h | h
  ·exact absurd (List.eq_nil_of_length_eq_zero h) (ziZ r)
  ·exact h
 have hlen : 0 < (zac r ++ t).length := by rw [List.length_append]; omega
 obtain ⟨h1, h2⟩ := zo5 hv h27 t
 have hb : zbS (zac r ++ t) = false := by
  have h3 : ¬ (zac r ++ t).length < zbp (at0 (zac r ++ t) 0) := by rw [h2, List.length_append]; omega
  unfold zbS
  rw [decide_eq_false h3]
  rfl
 have hf : zaP (zac r ++ t) = true := by
  rw [zde _ hlen] at hb
  simpa using hb
 have h4 := zlS hlen h1 hf
 rw [hd] at h4
 have e : (zac r ++ t).drop (zac r).length = t := by simp
 have h5 : (r, (zac r).length).2 = (zac r).length := rfl
 rw [h5, e] at h4
 exact h4
theorem zdx {x : List Int} (hx : fdH x = []) (y : List Int) : (fd (x ++ y)).1 = (fd x).1 ++ (fd y).1 ∧ fdH (x ++ y) = fdH y := by
 have e := zfJ zaZ zd0 y x.length x (Nat.le_refl _)
 have hg : gH zar x = [] := hx
 rw [hg, List.nil_append] at e
 refine ⟨by show (gR zar (x ++ y)).1 = _; rw [e], ?_⟩
 have hl := zg4 zaZ x.length x (Nat.le_refl _)
 have hll := zoG zaZ x
 rw [hg] at hll
 show (x ++ y).drop (gR zar (x ++ y)).2 = y.drop (gR zar y).2
 rw [e]
 show (x ++ y).drop ((gR zar x).2 + (gR zar y).2) = _
 rw [← List.drop_drop, List.drop_append_of_le_length hl, List.drop_of_length_le (l := x) (by simp at hll; omega), List.nil_append]
theorem zgj : ∀ (rs : List Int), (∀ r ∈ rs, za5 r) → (fd (zaO rs)).1 = rs.map zby.shw ∧ fdH (zaO rs) = []
 | [], _ => ⟨rfl, rfl⟩
 | r :: rs, h => by
  have hr := h r (by simp)
  obtain ⟨h1, h2⟩ := zot hr.1 (by have := hr.2.1; omega) (zaO rs)
  obtain ⟨g1, g2⟩ := zgj rs (fun x hx => h x (by simp [hx]))
  have e : zaO (r :: rs) = zac r ++ zaO rs := by simp [zaO]
  rw [e, h1, h2, g1, g2]
  exact ⟨rfl, rfl⟩
theorem ze4 : (fd [13, 10]).1 = [.shw 13, .shw 10] ∧ fdH [13, 10] = [] := ⟨rfl, rfl⟩
theorem fd_cr : (fd [13]).1 = [.shw 13] ∧ fdH [13] = [] := ⟨rfl, rfl⟩
theorem zg7 : (fd [27, 91, 74]).1 = [.oby [] 74] ∧ fdH [27, 91, 74] = [] := ⟨rfl, rfl⟩
theorem zbG {d : SD} (hd : d.hold = []) {x : List Int} (hx : fdH x = []) : d.feed zp x = d.acts zp (fd x).1 := by
 unfold SD.feed
 rw [hd, List.nil_append, hx]
 have h1 := zfF zp [] (fd x).1 d
 have h2 : ({ d with hold := [] } : SD) = d := by rw [← hd]
 rw [h2] at h1
 exact h1.symm
theorem dg_63 : ∀ u : Nat, ∀ b ∈ dg u, 48 ≤ b ∧ b ≤ 57 := by
 intro u
 induction u using Nat.strongRecOn with
 | _ u ih =>
  by_cases h : u = 0
  ·subst h; intro x hx; simp [dg, dgs] at hx
  ·rw [ze3 u (by omega)]
   intro x hx
   rcases List.mem_append.1 hx with h1 | h1
   ·exact ih (u / 10) (by omega) x h1
   ·simp at h1
    omega
theorem zoc : ∀ u : Nat, (dg u).foldl (fun n b => n * 10 + (b - 48)) 0 = (u : Int) := by
 intro u
 induction u using Nat.strongRecOn with
 | _ u ih =>
  by_cases h : u = 0
  ·subst h; rfl
  ·rw [ze3 u (by omega), List.foldl_append, ih (u / 10) (by omega)]
   simp
   omega
theorem zlI {u : Nat} (h : u ≤ 9999) : zbE (dg u) = (u : Int) := by
 have hs : (dg u).length ≤ 4 := zfg 4 u (by omega)
 have ha : (dg u).any (fun b => decide (57 < b)) = false := by
  rw [List.any_eq_false]
  intro b hb
  have := dg_63 u b hb
  simp
  omega
 unfold zbE
 rw [if_neg (by rw [ha]; simp; omega), zoc]
theorem zjR {n c : Int} (hn : 0 < n) (hl : n ≤ 9999) (hc : 64 ≤ c ∧ c ≤ 126) : (fd (goL n c)).1 = [.oby (dg n.toNat) c] ∧ fdH (goL n c) = [] := by
 have hb : ∀ b ∈ dg n.toNat, 48 ≤ b ∧ b ≤ 63 := fun b hb => by have := dg_63 n.toNat b hb; omega
 have hs : (dg n.toNat).length ≤ 4 := zfg 4 n.toNat (by omega)
 unfold goL
 rw [if_neg (by omega)]
 have h1 := zhh hb (b := c) (by omega) (by omega)
 rw [if_pos hc] at h1
 exact h1
theorem zo7 (l : List UInt8) : ∀ k, Lib.trimRightB (l ++ List.replicate k 32) 32 = Lib.trimRightB l 32 := by
 intro k
 unfold Lib.trimRightB
 rw [List.reverse_append, List.reverse_replicate]
 congr 1
 induction k with
 | zero => rfl
 | succ k ih =>
  rw [List.replicate_succ, List.cons_append, List.dropWhile_cons, if_pos (by rfl)]
  exact ih
theorem znx (a b : List Int) : (zo (a ++ b)).data.toList = (zo a).data.toList ++ (zo b).data.toList := by
 rw [za9, za9, za9, List.map_append]
theorem toBA_sp (k : Nat) : (zo (List.replicate k 32)).data.toList = List.replicate k 32 := by
 rw [za9, List.map_replicate]
 rfl
theorem zkz (T : List Int) (k : Nat) : zaR (zo (T ++ List.replicate k 32)) = zaR (zo T) := by
 rw [← zea, ← zea, znx, toBA_sp, zo7]
theorem ziT {tx : Nat → ByteArray} {hf : Nat → Bool} (c : Nat) (h : ∀ q, c ≤ q → tx q = bz ∧ hf q = false) : ∀ k, zbm tx hf (c + k) = zbm tx hf c ++ List.replicate k 32
 | 0 => by simp
 | k + 1 => by
  have h1 := h (c + k) (by omega)
  have h2 : zcC bz false = [32] := by
   unfold zcC
   simp [zlm]
  rw [show c + (k + 1) = c + k + 1 by omega, zbm, h1.1, h1.2, h2, ziT c h k, List.append_assoc, ← List.replicate_succ']
theorem zcn.line {d : SD} {c : Nat} {T : List Int} (h : zcn d c T) : zca d d.row.toNat = zaR (zo T) := by
 have hrw := h.ok.row
 have hR := h.ok.R
 have hle := h.le
 have hCi := h.ok.C d.row.toNat (by omega)
 unfold zca zp
 rw [show d.C d.row.toNat = c + (d.C d.row.toNat - c) by omega, ziT c h.blank, h.text, zkz]
def zc9 (d : SD) (k : Nat) : ByteArray := if k < d.nb then d.bk k else zca d (k - d.nb)
def zbI (d : SD) : Nat := d.nb + d.row.toNat
def zdw (d : SD) : Prop := ∀ p, d.row.toNat < p → ∀ q, d.tx p q = bz ∧ d.hf p q = false
theorem znY {d : SD} (h : OkP d) (hb : zdw d) : OkP (d.down zp) ∧ zbI (d.down zp) = zbI d + 1 ∧ (∀ k, k ≤ zbI d → zc9 (d.down zp) k = zc9 d k) ∧ zdw (d.down zp) ∧ (∀ q, (d.down zp).tx (d.down zp).row.toNat q = bz ∧ (d.down zp).hf (d.down zp).row.toNat q = false) ∧ (d.down zp).col = d.col ∧ (d.down zp).late = false ∧ (d.down zp).cols = d.cols ∧ (d.down zp).rows = d.rows ∧ (d.down zp).hold = d.hold := by
 have hs := zae h
 have hrw := h.row
 have hR := h.R
 refine ⟨zjm zp h, ?_⟩
 unfold SD.down
 by_cases hn : d.row < d.rows - 1
 ·rw [if_pos hn]
  have e : (d.row + 1).toNat = d.row.toNat + 1 := by omega
  refine ⟨by show d.nb + (d.row + 1).toNat = d.nb + d.row.toNat + 1; omega, fun k _ => rfl, ?_, ?_, rfl, rfl, rfl, rfl, rfl⟩
  ·intro p hp q
   have hp2 : (d.row + 1).toNat < p := hp
   exact hb p (by omega) q
  ·intro q
   show d.tx (d.row + 1).toNat q = bz ∧ d.hf (d.row + 1).toNat q = false
   exact hb _ (by omega) q
 ·rw [if_neg hn]
  have hrR : d.row.toNat + 1 = d.R := by omega
  refine ⟨by show d.nb + 1 + d.row.toNat = d.nb + d.row.toNat + 1; omega, ?_, ?_, ?_, rfl, rfl, rfl, rfl, rfl⟩
  ·intro k hk
   have hk2 : k ≤ d.nb + d.row.toNat := hk
   unfold zc9
   show (if k < d.nb + 1 then (if k = d.nb then zp (d.tx 0) (d.hf 0) (d.C 0) else d.bk k) else _) = _
   by_cases h1 : k < d.nb
   ·rw [if_pos (by omega), if_neg (by omega), if_pos h1]
   ·rw [if_neg h1]
    by_cases h2 : k = d.nb
    ·rw [if_pos (by omega), if_pos h2, h2, Nat.sub_self]
     rfl
    ·rw [if_neg (by omega)]
     have h3 : k - (d.nb + 1) + 1 = k - d.nb := by omega
     have h4 : k - (d.nb + 1) + 1 < d.R := by omega
     unfold zca
     show zp (fun q => if k - (d.nb + 1) + 1 < d.R then d.tx (k - (d.nb + 1) + 1) q else bz) (fun q => if k - (d.nb + 1) + 1 < d.R then d.hf (k - (d.nb + 1) + 1) q else false) (if k - (d.nb + 1) + 1 < d.R then d.C (k - (d.nb + 1) + 1) else d.cols.toNat) = _
     simp only [h4, if_true]
     rw [h3]
  ·intro p hp q
   have hp2 : d.row.toNat < p := hp
   show (if p + 1 < d.R then d.tx (p + 1) q else bz) = bz ∧ (if p + 1 < d.R then d.hf (p + 1) q else false) = false
   rw [if_neg (by omega), if_neg (by omega)]
   exact ⟨rfl, rfl⟩
  ·intro q
   show (if d.row.toNat + 1 < d.R then d.tx (d.row.toNat + 1) q else bz) = bz ∧ (if d.row.toNat + 1 < d.R then d.hf (d.row.toNat + 1) q else false) = false
   rw [if_neg (by omega), if_neg (by omega)]
   exact ⟨rfl, rfl⟩
theorem zjY {d : SD} {c : Nat} {T : List Int} (h : zcn d c T) (hb : zdw d) : zcn (d.acts zp [.shw 13, .shw 10]) 0 [] ∧ zdw (d.acts zp [.shw 13, .shw 10]) ∧ zbI (d.acts zp [.shw 13, .shw 10]) = zbI d + 1 ∧ (∀ k, k ≤ zbI d → zc9 (d.acts zp [.shw 13, .shw 10]) k = zc9 d k) ∧ zc9 d (zbI d) = zaR (zo T) ∧ (d.acts zp [.shw 13, .shw 10]).cols = d.cols ∧ (d.acts zp [.shw 13, .shw 10]).hold = d.hold := by
 have hs := zae h.ok
 have e : d.acts zp [.shw 13, .shw 10] = ({ d with col := 0, late := false } : SD).down zp := by
  show (d.shw zp 13).shw zp 10 = _
  have e1 : d.shw zp 13 = { d with col := 0, late := false } := by unfold SD.shw; rw [if_pos rfl]
  rw [e1]
  unfold SD.shw
  rw [if_neg (by decide), if_pos rfl]
 have h0 : OkP ({ d with col := 0, late := false } : SD) := zgg h.ok
 obtain ⟨g0, g1, g2, g3, g4, g5, g6, g7, g8, g9⟩ := znY h0 hb
 rw [e]
 refine ⟨⟨g0, by rw [g7]; show ((0 : Nat) : Int) ≤ d.cols; omega, fun _ => ⟨g5, g6⟩, fun hf => ?_, fun q _ => g4 q, rfl, fun h9 => by omega⟩, g3, g1, g2, ?_, g7, g9⟩
 ·rw [g7] at hf
  have : ((0 : Nat) : Int) = d.cols := hf
  omega
 ·unfold zc9 zbI
  rw [if_neg (by omega), Nat.add_sub_cancel_left]
  exact h.line
structure Fit (cols : Int) (rs : List Int) : Prop where
 clean : ∀ r ∈ rs, za5 r
 wide : zcu rs ≤ cols
 len : (zaO rs).length ≤ 6000
 head : ∀ r, rs.head? = some r → 0 < wid r
def zdL : List (List Int) → List Int
 | [] => []
 | [r] => zaO r
 | r :: s :: rs => zaO r ++ ([13, 10] ++ zdL (s :: rs))
def zcO : List (List Int) → List zby
 | [] => []
 | [r] => r.map zby.shw
 | r :: s :: rs => r.map zby.shw ++ ([.shw 13, .shw 10] ++ zcO (s :: rs))
theorem ziq : ∀ (rss : List (List Int)), (∀ rs ∈ rss, ∀ r ∈ rs, za5 r) → (fd (zdL rss)).1 = zcO rss ∧ fdH (zdL rss) = []
 | [], _ => ⟨rfl, rfl⟩
 | [r], h => zgj r (h r (by simp))
 | r :: s :: rs, h => by
  obtain ⟨h1, h2⟩ := zgj r (h r (by simp))
  obtain ⟨g1, g2⟩ := ziq (s :: rs) (fun x hx => h x (List.mem_cons_of_mem _ hx))
  obtain ⟨a1, a2⟩ := zdx h2 ([13, 10] ++ zdL (s :: rs))
  obtain ⟨b1, b2⟩ := zdx ze4.2 (zdL (s :: rs))
  rw [zdL, zcO, a1, a2, b1, b2, h1, ze4.1, g1, g2]
  exact ⟨rfl, rfl⟩
structure Seen (d d' : SD) (A : Nat) : Prop where
 cols : d'.cols = d.cols
 rows : d'.rows = d.rows
 hold : d'.hold = d.hold
 above : ∀ k, k < A → zc9 d' k = zc9 d k
theorem zcc.absT {d d' : SD} (h : zcc d d') (k : Nat) (hk : k < zbI d) : Go.Proofs.YtinfdhbnljnifaaGreatDoor.zc9 d' k = Go.Proofs.YtinfdhbnljnifaaGreatDoor.zc9 d k := by
 unfold Go.Proofs.YtinfdhbnljnifaaGreatDoor.zc9
 unfold zbI at hk
 rw [h.nb, h.bk]
 split
 ·rfl
 ·unfold zca
  rw [h.tx (k - d.nb) (by omega), h.hf (k - d.nb) (by omega), h.C]
theorem zcc.absR {d d' : SD} (h : zcc d d') : Go.Proofs.YtinfdhbnljnifaaGreatDoor.zbI d' = Go.Proofs.YtinfdhbnljnifaaGreatDoor.zbI d := by
 unfold Go.Proofs.YtinfdhbnljnifaaGreatDoor.zbI
 rw [h.nb, h.row]
theorem zcc.below {d d' : SD} (h : zcc d d') (hb : zdw d) : zdw d' := by
 intro p hp q
 rw [h.row] at hp
 rw [h.tx p (by omega), h.hf p (by omega)]
 exact hb p hp q
theorem zjB (d : SD) : (d.acts zp [.shw 13, .shw 10]).rows = d.rows ∧ (d.acts zp [.shw 13, .shw 10]).row = if d.row < d.rows - 1 then d.row + 1 else d.row := by
 have e : d.acts zp [.shw 13, .shw 10] = ({ d with col := 0, late := false } : SD).down zp := by
  show (d.shw zp 13).shw zp 10 = _
  have e1 : d.shw zp 13 = { d with col := 0, late := false } := by unfold SD.shw; rw [if_pos rfl]
  rw [e1]
  unfold SD.shw
  rw [if_neg (by decide), if_pos rfl]
 rw [e]
 unfold SD.down
 show (if d.row < d.rows - 1 then _ else _ : SD).rows = d.rows ∧ (if d.row < d.rows - 1 then _ else _ : SD).row = _
 split <;> exact ⟨rfl, rfl⟩
theorem zkB : ∀ (rss : List (List Int)) {d : SD}, rss ≠ [] → zcn d 0 [] → zdw d → (∀ rs ∈ rss, Fit d.cols rs) →
  ∃ c T, zcn (d.acts zp (zcO rss)) c T ∧ zdw (d.acts zp (zcO rss)) ∧ zbI (d.acts zp (zcO rss)) + 1 = zbI d + rss.length ∧ Seen d (d.acts zp (zcO rss)) (zbI d) ∧ (∀ i, i < rss.length → zc9 (d.acts zp (zcO rss)) (zbI d + i) = zaR (zo (zaO (rss.getD i [])))) ∧ min (d.row + rss.length) d.rows ≤ (d.acts zp (zcO rss)).row + 1
 | [], _, h, _, _, _ => absurd rfl h
 | [r], d, _, h0, hb, hf => by
  have hr := hf r (by simp)
  obtain ⟨c', e', h', s'⟩ := zes r h0 hr.clean (by have := hr.wide; simp; omega) (by simpa using hr.len) (.inr hr.head)
  have hl := h'.line
  refine ⟨c', _, h', s'.below hb, by rw [zcO, s'.absR]; rfl, ⟨s'.cols, s'.rows, s'.hold, fun k hk => s'.absT k hk⟩, fun i hi => ?_, ?_⟩
  rotate_left
  ·have e9 := s'.row
   show min (d.row + (([r] : List (List Int)).length : Nat)) d.rows ≤ (d.acts zp (r.map zby.shw)).row + 1
   rw [e9]
   simp
   omega
  have hi0 : i = 0 := by simp at hi; exact hi
  subst hi0
  show zc9 (d.acts zp (r.map zby.shw)) (zbI d + 0) = zaR (zo (zaO r))
  rw [Nat.add_zero, ← s'.absR]
  unfold zc9 zbI
  rw [if_neg (by omega), Nat.add_sub_cancel_left, hl]
  simp
 | r :: s :: rs, d, _, h0, hb, hf => by
  have hr := hf r (by simp)
  obtain ⟨c', e', h', s'⟩ := zes r h0 hr.clean (by have := hr.wide; simp; omega) (by simpa using hr.len) (.inr hr.head)
  obtain ⟨k0, k1, k2, k3, k4, k5, k6⟩ := zjY h' (s'.below hb)
  obtain ⟨j1, j2⟩ := zjB (d.acts zp (r.map zby.shw))
  obtain ⟨c2, T2, m0, m1, m2, m3, m4, m5⟩ := zkB (s :: rs) (by simp) k0 k1 (fun x hx => by rw [k5, s'.cols]; exact hf x (List.mem_cons_of_mem _ hx))
  have e : d.acts zp (zcO (r :: s :: rs)) = ((d.acts zp (r.map zby.shw)).acts zp [.shw 13, .shw 10]).acts zp (zcO (s :: rs)) := by rw [zcO, zcI, zcI]
  rw [e]
  have hA := s'.absR
  refine ⟨c2, T2, m0, m1, by rw [k2, hA] at m2; simp at m2 ⊢; omega, ⟨by rw [m3.cols, k5, s'.cols], by rw [m3.rows, j1, s'.rows], by rw [m3.hold, k6, s'.hold], fun k hk => ?_⟩, fun i hi => ?_, ?_⟩
  rotate_right
  ·rw [j1, j2, s'.rows, s'.row] at m5
   simp only [List.length_cons] at m5 ⊢
   split at m5 <;> omega
  ·rw [m3.above k (by omega), k3 k (by omega), s'.absT k hk]
  ·by_cases hi0 : i = 0
   ·subst hi0
    rw [Nat.add_zero, m3.above (zbI d) (by omega), k3 (zbI d) (by omega), ← hA, k4]
    simp
   ·obtain ⟨j, rfl⟩ : ∃ j, i = j + 1 := ⟨i - 1, by omega⟩
    have h9 := m4 j (by simp at hi ⊢; omega)
    rw [k2, hA] at h9
    rw [show zbI d + (j + 1) = zbI d + 1 + j by omega, h9]
    rfl
def Out (d : SD) : Prop := ∀ (p q : Nat), d.cols ≤ (q : Int) → d.tx p q = bz ∧ d.hf p q = false
theorem zkL {d : SD} (ho : Out d) : Out (d.down zp) := by
 unfold SD.down
 split
 ·exact ho
 ·intro p q hq
  have hq2 : d.cols ≤ (q : Int) := hq
  show (if p + 1 < d.R then d.tx (p + 1) q else bz) = bz ∧ (if p + 1 < d.R then d.hf (p + 1) q else false) = false
  split
  ·exact ho _ q hq2
  ·exact ⟨rfl, rfl⟩
theorem ziX {d : SD} (ho : Out d) (i a b : Nat) : Out (d.clr i a b) := by
 intro p q hq
 have hq2 : d.cols ≤ (q : Int) := hq
 show (if p = i ∧ za6 d i a b q = true then bz else d.tx p q) = bz ∧ (if p = i ∧ za6 d i a b q = true then false else d.hf p q) = false
 split
 ·exact ⟨rfl, rfl⟩
 ·exact ho p q hq2
theorem zjT {d : SD} (ho : Out d) (i j : Nat) (hj : (j : Int) < d.cols) (t : ByteArray) : Out (d.setT i j t) := by
 intro p q hq
 have hq2 : d.cols ≤ (q : Int) := hq
 show (if p = i ∧ q = j then t else d.tx p q) = bz ∧ d.hf p q = false
 rw [if_neg (by omega)]
 exact ho p q hq2
theorem zn5 {d : SD} (ho : Out d) (i j : Nat) (hj : (j : Int) < d.cols) : Out (d.setH i j) := by
 intro p q hq
 have hq2 : d.cols ≤ (q : Int) := hq
 show d.tx p q = bz ∧ (if p = i ∧ q = j then true else d.hf p q) = false
 rw [if_neg (by omega)]
 exact ho p q hq2
theorem zmE {d : SD} (ho : Out d) (w : Int) : Out (d.wrapL zp w) := by
 unfold SD.wrapL
 split
 ·exact zkL ho
 ·exact ho
theorem znR {d : SD} (h : OkP d) (ho : Out d) (t : ByteArray) (w : Int) (hc : d.col + w ≤ d.cols) : Out (d.put3 t w) := by
 have hcol := h.col
 have o1 : Out (d.put1 t w) := zjT (ziX ho _ _ _) _ _ (by show ((d.col.toNat : Nat) : Int) < d.cols; omega) t
 have o2 : Out (d.put2 t w) := by
  unfold SD.put2
  split
  ·exact zn5 o1 _ _ (by show ((d.col.toNat + 1 : Nat) : Int) < d.cols; omega)
  ·exact o1
 unfold SD.put3
 split
 ·exact o2
 ·exact o2
theorem out_shw {d : SD} (h : OkP d) (ho : Out d) (r : Int) : Out (d.shw zp r) := by
 unfold SD.shw
 split
 ·exact ho
 split
 ·exact zkL ho
 split
 ·exact ho
 split
 ·unfold SD.mark
  split
  ·exact ho
  split
  ·refine zjT ho _ _ ?_ _
   have hcol := h.col
   unfold SD.mkAt2 SD.mkAt
   split <;> split <;> omega
  ·exact ho
 ·rename_i hz
  have hw : wid r = 1 ∨ wid r = 2 := (zbM r).resolve_left hz
  obtain ⟨g1, _, g3⟩ := ze8 zp h (wid r) hw
  unfold SD.put
  exact znR g1 (zmE ho _) _ _ g3
theorem out_oby {d : SD} (ho : Out d) (bs : List Int) (last : Int) : Out (d.oby bs last) := by
 unfold SD.oby
 repeat' split
 all_goals first | exact ho | exact ziX ho _ _ _ | skip
 intro p q hq
 have hq2 : d.cols ≤ (q : Int) := hq
 have h1 := ziX ho d.row.toNat d.col.toNat d.cols.toNat p q hq2
 show (if d.row.toNat + 1 ≤ p then bz else (d.clr d.row.toNat d.col.toNat d.cols.toNat).tx p q) = bz ∧ (if d.row.toNat + 1 ≤ p then false else (d.clr d.row.toNat d.col.toNat d.cols.toNat).hf p q) = false
 split
 ·exact ⟨rfl, rfl⟩
 ·exact h1
theorem zdZ : ∀ (l : List zby) {d : SD}, OkP d → Out d → Out (d.acts zp l)
 | [], _, _, ho => ho
 | .inl r :: l, _, h, ho => zdZ l (zhx zp h r) (out_shw h ho r)
 | .inr (bs, last) :: l, _, h, ho => zdZ l (znP h bs last) (out_oby ho bs last)
structure zfm (d : SD) (up : Nat → ByteArray) (n : Nat) : Prop where
 at0 : zcn d 0 []
 below : zdw d
 out : Out d
 hold : d.hold = []
 row : zbI d = n
 above : ∀ k, k < n → zc9 d k = up k
structure Shn (d : SD) (up : Nat → ByteArray) (n : Nat) (B : Nat → ByteArray) (m r : Nat) (c : Int) : Prop where
 ok : OkP d
 out : Out d
 hold : d.hold = []
 late : d.late = false
 nb : d.nb ≤ n
 row : zbI d = n + r
 col : d.col = c
 above : ∀ k, k < n → zc9 d k = up k
 rows : ∀ i, i < m → zc9 d (n + i) = B i
 below : ∀ p, n + m ≤ d.nb + p → ∀ q, d.tx p q = bz ∧ d.hf p q = false
 fit : n + m ≤ d.nb + d.R
def zbz (B : Nat → ByteArray) (r : Nat) : Nat → Nat
 | 0 => r
 | k + 1 => if (B k).toList ≠ [] ∧ zbz B r k < k then k else zbz B r k
theorem zkC {d : SD} {p : Nat} (h : ∀ q, d.tx p q = bz ∧ d.hf p q = false) : (zca d p).toList = [] := by
 unfold zca zp
 have e := ziT (tx := d.tx p) (hf := d.hf p) 0 (fun q _ => h q) (d.C p)
 rw [Nat.zero_add] at e
 have e2 : zaR (zo ([] ++ List.replicate (d.C p) 32)) = zaR (zo []) := zkz [] _
 rw [e]
 show (zaR (zo ([] ++ List.replicate (d.C p) 32))).toList = []
 rw [e2]
 have e3 : zaR (zo []) = bz := rfl
 rw [e3]
 exact zlm
theorem Shn.lines {d : SD} {up B : Nat → ByteArray} {n m r : Nat} {c : Int} (h : Shn d up n B m r c) (hr : r < m) : zfL d = n + zbz B r m + 1 := by
 have hrw := h.ok.row
 have hR := h.ok.R
 have hnb := h.nb
 have hfit := h.fit
 have hrow := h.row
 unfold zbI at hrow
 obtain ⟨o, ho⟩ : ∃ o, n = d.nb + o := ⟨n - d.nb, by omega⟩
 have hro : d.row.toNat = o + r := by omega
 have key : ∀ k, k ≤ m → zdN d (o + r) (o + k) = o + zbz B r k := by
  intro k
  induction k with
  | zero => intro _; rw [Nat.add_zero, zfC d (o + r) o (by omega)]; rfl
  | succ k ih =>
   intro hk
   have ih' := ih (by omega)
   have hb := h.rows k (by omega)
   have hl : zca d (o + k) = B k := by
    rw [← hb]
    unfold zc9
    rw [if_neg (by omega)]
    congr 1
    omega
   rw [show o + (k + 1) = (o + k) + 1 by omega, zdN, zbz, ih', hl]
   by_cases hc : (B k).toList ≠ [] ∧ zbz B r k < k
   ·rw [if_pos hc, if_pos ⟨hc.1, by omega⟩]
   ·rw [if_neg hc, if_neg (fun e => hc ⟨e.1, by omega⟩)]
 have key2 : ∀ k, zdN d (o + r) (o + m + k) = o + zbz B r m := by
  intro k
  induction k with
  | zero => exact key m (Nat.le_refl _)
  | succ k ih =>
   have hl := zkC (d := d) (p := o + m + k) (h.below (o + m + k) (by omega))
   rw [show o + m + (k + 1) = (o + m + k) + 1 by omega, zdN, ih, if_neg (fun e => e.1 hl)]
 have h1 := znc d (o + r) (by omega) d.R (by omega)
 have h2 := key2 (d.R - (o + m))
 rw [show o + m + (d.R - (o + m)) = d.R by omega] at h2
 unfold zfL
 omega
theorem Shn.text {d : SD} {up B : Nat → ByteArray} {n m r : Nat} {c : Int} (h : Shn d up n B m r c) {k : Nat} (hk : k < n + m) : zdt d k = if k < n then up k else B (k - n) := by
 show zc9 d k = _
 split
 ·exact h.above k (by assumption)
 ·have := h.rows (k - n) (by omega)
  rwa [show n + (k - n) = k by omega] at this
theorem zd6 {B : Nat → ByteArray} {r m : Nat} (hr : r < m) : ∀ k, k ≤ m → zbz B r k < m
 | 0, _ => hr
 | k + 1, hk => by
  have := zd6 (B := B) hr k (by omega)
  rw [zbz]
  split <;> omega
theorem zfm.shn {d : SD} {up : Nat → ByteArray} {n : Nat} (h : zfm d up n) : Shn d up n (fun _ => bz) 1 0 0 := by
 have hs := zae h.at0.ok
 have hrw := h.at0.ok.row
 have hR := h.at0.ok.R
 have hrow := h.row
 obtain ⟨g1, g2⟩ := h.at0.col (by omega)
 have hrow' := hrow
 unfold zbI at hrow'
 refine ⟨h.at0.ok, h.out, h.hold, g2, by omega, hrow, g1, h.above, fun i hi => ?_, fun p hp q => h.below p (by omega) q, by omega⟩
 have hi0 : i = 0 := by omega
 subst hi0
 have hl := h.at0.line
 rw [Nat.add_zero, ← hrow]
 unfold zc9 zbI
 rw [if_neg (by omega), Nat.add_sub_cancel_left, hl]
 rfl
end Go.Proofs.YtinfdhbnljnifaaGreatDoor
