import Derived.Test.YtinfdhbnljnifaaGreatDoorFtN
import Derived.Test.YtinfdhbnljnifaaGreatDoorFtC
import Derived.Test.YtinfdhbnljnifaaGreatDoorPcs
import Derived.Test.YtinfdhbnljnifaaGreatDoorFsS
import Derived.Test.YtinfdhbnljnifaaGreatDoorOkImpl
import Derived.Test.YtinfdhbnljnifaaGreatDoorHTab
import Derived.Test.YtinfdhbnljnifaaGreatDoorBlocks
namespace Go.Proofs.YtinfdhbnljnifaaGreatDoor
open Go.RowKit
set_option linter.unusedSimpArgs false in
set_option maxRecDepth 10000 in
set_option maxHeartbeats 8000000 in
theorem streamed_core (cv mv : Value) (xs ms : List Int) (w : World) (d Fin : SD) (ys : List Int) (A : List (List Int) → Nat → SD) (ok : Bool)
    (hc : IntsAt w .u8 cv xs) (hm : IntsAt w .u8 mv ms) (hX : Bytes xs) (hM : Bytes ms) (hl1 : xs.length ≤ 1048576) (hl2 : ms.length ≤ 1048576) (hdr : drF (xs.take 1000) = (d, ys)) (hyl : ys.length ≤ 300)
    (hS : ∀ W gv hv bv yv, ScrAt W d gv hv bv → IntsAt W .u8 yv ys → Calls Tryz.prog 7 #[scrV d gv hv bv, yv] W fun e w' => ∃ gv' hv' bv', e = .returned (scrV Fin gv' hv' bv') ∧ ScrAt w' Fin gv' hv' bv' ∧ Ext W w')
    (hI : ∀ W gv hv bv yv, Ext w W → ScrAt W d gv hv bv → IntsAt W .u8 yv ys → Calls Tryz.prog 8 #[scrV d gv hv bv, yv] W fun e w' => ∃ gv' hv' bv', e = .returned (scrV Fin gv' hv' bv') ∧ ScrAt w' Fin gv' hv' bv' ∧ Ext W w')
    (hP : ∀ pss, pss.flatten = ys → ∀ i, i < pss.length → ∀ W gv hv bv pv, Ext w W → ScrAt W (A pss i) gv hv bv → IntsAt W .u8 pv (pss.getD i []) → Calls Tryz.prog 8 #[scrV (A pss i) gv hv bv, pv] W fun e w' => ∃ gv' hv' bv', e = .returned (scrV (A pss (i + 1)) gv' hv' bv') ∧ (∀ W', Fr (fun q => q < W.heap.size) w' W' → ScrAt W' (A pss (i + 1)) gv' hv' bv') ∧ Ext W w')
    (hA0 : ∀ pss, A pss 0 = d) (hAn : ∀ pss, pss.flatten = ys → A pss pss.length = Fin) (ho1 : ok = true ↔ OkP Fin) (ho2 : ok = true ↔ OkP d) (hKB : KeepB d Fin) (hFd : d.Fits) (hFf : Fin.Fits) (hn1 : d.nb ≤ 1000) (hn2 : Fin.nb ≤ 1000) :
    Calls Tryz.prog 3 #[cv, mv] w fun e w' => e = .returned (.bool true) ∧ Below w.heap.size w w' := by
  obtain ⟨ca, cc, hcv, _, _⟩ := id hc
  obtain ⟨ma, mc, hmv, _, _⟩ := id hm
  subst hcv
  subst hmv
  have b1 : ¬ (1048576 : Int) < (xs.length : Int) := by omega
  have b2 : ¬ (1048576 : Int) < (ms.length : Int) := by omega
  have hDr := fun W (hW : Ext w W) => DrawFeed_is _ xs W (hc.ext hW) hX (by omega)
  rw [hdr] at hDr
  have HDr := hide hDr
  have HS := hide hS
  have HI := hide hI
  have HP := hide hP
  have HA0 := hide hA0
  have HAn := hide hAn
  have HO1 := hide ho1
  have HO2 := hide ho2
  have HKB := hide hKB
  have HFd := hide hFd
  have HFf := hide hFf
  have HM := hide hm
  clear hDr hS hI hP hA0 hAn ho1 ho2 hKB hFd hFf hc hm hdr
  go_enter Tryz.func3, Tryz.ntmps3
  go_wp2_with fail
  refine ((unhide HDr) w (Ext.refl _)).mono ?_
  rintro e w1 ⟨gv, hv, bv, yv, rfl, hat1, hy1, F1⟩
  obtain ⟨ga, gc, ha, hc, ba, bc, e1, e2, e3⟩ := (hat1).forms
  subst e1
  subst e2
  subst e3
  obtain ⟨ya, yc, hyv, _, _⟩ := id hy1
  subst hyv
  have HAT1 : Hid (ScrAt w1 d (.slice ga d.R gc) (.slice ha d.hold.length hc) (.slice ba d.nb bc)) := hide hat1
  have HY1 : Hid (IntsAt w1 .u8 (.slice ya ys.length yc) ys) := hide hy1
  have HF1 := hide F1
  clear hat1 hy1 F1
  obtain ⟨V1, hV1⟩ : ∃ V, V = w1.alloc (.cells #[.int .i64 d.cols, .int .i64 d.rows, .slice ga d.R gc, .int .i64 d.row, .int .i64 d.col, .bool d.late, .slice ha d.hold.length hc, .slice ba d.nb bc] 26) := ⟨_, rfl⟩
  have EV1 : Ext w1 V1 := by rw [hV1]; exact (Ext.refl _).alloc _
  have HB1 : Hid (V1.heap[w1.heap.size]? = some (.cells #[.int .i64 d.cols, .int .i64 d.rows, .slice ga d.R gc, .int .i64 d.row, .int .i64 d.col, .bool d.late, .slice ha d.hold.length hc, .slice ba d.nb bc] 26 (0, 0))) := hide (by rw [hV1]; exact new_block _ _)
  have zV1 : V1.heap.size = w1.heap.size + 1 := by rw [hV1]; simp
  have HV1 := hide hV1
  have HEV1 := hide EV1
  clear hV1 EV1
  have hSf := (unhide HS) V1 _ _ _ _ ((unhide HAT1).ext (unhide HEV1)) ((unhide HY1).ext (unhide HEV1))
  unfold scrV at hSf
  have HSf := hide hSf
  clear hSf
  unfold scrV
  go_wp2_with (show wpList _ _ _ (List.cons ⟨_, .load _ _, _, _, _, _⟩ _) _ _; rw [← unhide HV1]; refine wpList_load_blk rfl 26 _ rfl w1.heap.size rfl _ _ _ _ (unhide HB1) Tryz.underlying26 rfl infoScr8 ?_)
  refine (unhide HSf).mono ?_
  rintro e w2 ⟨gv2, hv2, bv2, rfl, hat2, F2⟩
  obtain ⟨ga2, gc2, ha2, hc2, ba2, bc2, e1, e2, e3⟩ := (hat2).forms
  subst e1
  subst e2
  subst e3
  have HAT2 : Hid (ScrAt w2 Fin (.slice ga2 Fin.R gc2) (.slice ha2 Fin.hold.length hc2) (.slice ba2 Fin.nb bc2)) := hide hat2
  have HF2 := hide F2
  clear hat2 F2 HSf
  obtain ⟨V2, hV2⟩ : ∃ V, V = w2.alloc (.cells #[.int .i64 Fin.cols, .int .i64 Fin.rows, .slice ga2 Fin.R gc2, .int .i64 Fin.row, .int .i64 Fin.col, .bool Fin.late, .slice ha2 Fin.hold.length hc2, .slice ba2 Fin.nb bc2] 26) := ⟨_, rfl⟩
  have EV2 : Ext w2 V2 := by rw [hV2]; exact (Ext.refl _).alloc _
  have HB2 : Hid (V2.heap[w2.heap.size]? = some (.cells #[.int .i64 Fin.cols, .int .i64 Fin.rows, .slice ga2 Fin.R gc2, .int .i64 Fin.row, .int .i64 Fin.col, .bool Fin.late, .slice ha2 Fin.hold.length hc2, .slice ba2 Fin.nb bc2] 26 (0, 0))) := hide (by rw [hV2]; exact new_block _ _)
  have zV2 : V2.heap.size = w2.heap.size + 1 := by rw [hV2]; simp
  have HV2 := hide hV2
  have HEV2 := hide EV2
  clear hV2 EV2
  have HX2 : Hid (Ext w1 V2) := hide ((unhide HEV1).trans ((unhide HF2).trans (unhide HEV2)))
  have HB1a := hide (((unhide HF2).trans (unhide HEV2)).kept (unhide HB1))
  have hIf := (unhide HI) V2 _ _ _ _ ((unhide HF1).trans (unhide HX2)) ((unhide HAT1).ext (unhide HX2)) ((unhide HY1).ext (unhide HX2))
  unfold scrV at hIf
  have HIf := hide hIf
  clear hIf
  go_wp2_with (show wpList _ _ _ (List.cons ⟨_, .load _ _, _, _, _, _⟩ _) _ _; rw [← unhide HV2]; refine wpList_load_blk rfl 26 _ rfl w1.heap.size rfl _ _ _ _ (unhide HB1a) Tryz.underlying26 rfl infoScr8 ?_)
  refine (unhide HIf).mono ?_
  rintro e w3 ⟨gv3, hv3, bv3, rfl, hat3, F3⟩
  obtain ⟨ga3, gc3, ha3, hc3, ba3, bc3, e1, e2, e3⟩ := (hat3).forms
  subst e1
  subst e2
  subst e3
  have HAT3 : Hid (ScrAt w3 Fin (.slice ga3 Fin.R gc3) (.slice ha3 Fin.hold.length hc3) (.slice ba3 Fin.nb bc3)) := hide hat3
  have HF3 := hide F3
  clear hat3 F3 HIf
  obtain ⟨V3, hV3⟩ : ∃ V, V = w3.alloc (.cells #[.int .i64 Fin.cols, .int .i64 Fin.rows, .slice ga3 Fin.R gc3, .int .i64 Fin.row, .int .i64 Fin.col, .bool Fin.late, .slice ha3 Fin.hold.length hc3, .slice ba3 Fin.nb bc3] 26) := ⟨_, rfl⟩
  have EV3 : Ext w3 V3 := by rw [hV3]; exact (Ext.refl _).alloc _
  have HB3 : Hid (V3.heap[w3.heap.size]? = some (.cells #[.int .i64 Fin.cols, .int .i64 Fin.rows, .slice ga3 Fin.R gc3, .int .i64 Fin.row, .int .i64 Fin.col, .bool Fin.late, .slice ha3 Fin.hold.length hc3, .slice ba3 Fin.nb bc3] 26 (0, 0))) := hide (by rw [hV3]; exact new_block _ _)
  have zV3 : V3.heap.size = w3.heap.size + 1 := by rw [hV3]; simp
  have HV3 := hide hV3
  have HEV3 := hide EV3
  clear hV3 EV3
  have HX3 : Hid (Ext w1 V3) := hide ((unhide HX2).trans ((unhide HF3).trans (unhide HEV3)))
  have HB1b := hide (((unhide HF3).trans (unhide HEV3)).kept (unhide HB1a))
  have HB2b := hide (((unhide HF3).trans (unhide HEV3)).kept (unhide HB2))
  obtain ⟨V4, hV4⟩ : ∃ V, V = V3.alloc (.cells #[.int .i64 d.cols, .int .i64 d.rows, .slice ga d.R gc, .int .i64 d.row, .int .i64 d.col, .bool d.late, .slice ha d.hold.length hc, .slice ba d.nb bc] 26) := ⟨_, rfl⟩
  have EV4 : Ext V3 V4 := by rw [hV4]; exact (Ext.refl _).alloc _
  have HB4 : Hid (V4.heap[V3.heap.size]? = some (.cells #[.int .i64 d.cols, .int .i64 d.rows, .slice ga d.R gc, .int .i64 d.row, .int .i64 d.col, .bool d.late, .slice ha d.hold.length hc, .slice ba d.nb bc] 26 (0, 0))) := hide (by rw [hV4]; exact new_block _ _)
  have zV4 : V4.heap.size = V3.heap.size + 1 := by rw [hV4]; simp
  have HV4 := hide hV4
  have HEV4 := hide EV4
  clear hV4 EV4
  have HX4 : Hid (Ext w1 V4) := hide ((unhide HX3).trans (unhide HEV4))
  have HPc := hide (pieces_any _ _ ys ms V4 ((unhide HY1).ext (unhide HX4)) ((unhide HM).ext ((unhide HF1).trans (unhide HX4))) hM (by omega) (by omega))
  have HVV4 : Hid (V4 = (w3.alloc (.cells #[.int .i64 Fin.cols, .int .i64 Fin.rows, .slice ga3 Fin.R gc3, .int .i64 Fin.row, .int .i64 Fin.col, .bool Fin.late, .slice ha3 Fin.hold.length hc3, .slice ba3 Fin.nb bc3] 26)).alloc (.cells #[.int .i64 d.cols, .int .i64 d.rows, .slice ga d.R gc, .int .i64 d.row, .int .i64 d.col, .bool d.late, .slice ha d.hold.length hc, .slice ba d.nb bc] 26)) := hide (by rw [unhide HV4, unhide HV3])
  go_wp2_with (show wpList _ _ _ (List.cons ⟨_, .load _ _, _, _, _, _⟩ _) _ _; rw [← unhide HV3]; refine wpList_load_blk rfl 26 _ rfl w1.heap.size rfl _ _ _ _ (unhide HB1b) Tryz.underlying26 rfl infoScr8 ?_)
  rw [← unhide HV4]
  refine (unhide HPc).mono ?_
  rintro e w5 ⟨⟨pv, vs, pss, rfl, hpr, hfl⟩, F5⟩
  obtain ⟨pa, pc, hpv⟩ : ∃ a c, pv = .slice a pss.length c := by
    obtain ⟨_, ao, cap, e, _⟩ := hpr.reads
    exact ⟨ao, cap, e⟩
  subst hpv
  have hat : V3.heap.size = w3.heap.size + 1 := zV3
  have HPR0 := hide hpr
  have HFL := hide hfl
  have HX5 : Hid (Ext V3 w5) := hide ((unhide HEV4).trans F5)
  have HB40 : Hid (w5.heap[w3.heap.size + 1]? = some (.cells #[.int .i64 d.cols, .int .i64 d.rows, .slice ga d.R gc, .int .i64 d.row, .int .i64 d.col, .bool d.late, .slice ha d.hold.length hc, .slice ba d.nb bc] 26 (0, 0))) := hide (by rw [← zV3]; exact F5.kept (unhide HB4))
  have HAT40 : Hid (ScrAt w5 d (.slice ga d.R gc) (.slice ha d.hold.length hc) (.slice ba d.nb bc)) := hide ((unhide HAT1).ext ((unhide HX4).trans F5))
  have z5 := F5.size
  clear HPc hpr hfl F5 HB4
  go_wp2_with fail
  go_loopw [11] (fun iv wr => ∃ (i : Nat) (x1 x3 x5 : Option Addr) (x2 x4 x6 : Nat), i ≤ pss.length ∧ iv = .int .i64 i ∧ Hid (Ext V3 wr) ∧ Hid (wr.heap[w3.heap.size + 1]? = some (.cells #[.int .i64 (A pss i).cols, .int .i64 (A pss i).rows, .slice x1 (A pss i).R x2, .int .i64 (A pss i).row, .int .i64 (A pss i).col, .bool (A pss i).late, .slice x3 (A pss i).hold.length x4, .slice x5 (A pss i).nb x6] 26 (0, 0))) ∧ Hid (ScrAt wr (A pss i) (.slice x1 (A pss i).R x2) (.slice x3 (A pss i).hold.length x4) (.slice x5 (A pss i).nb x6)) ∧ Hid (PcsRow wr V4.heap.size (.slice pa pss.length pc) vs pss)) (fun iv _ => pss.length - (intOf iv).toNat)
  case atStart => exact ⟨0, ga, ha, ba, gc, hc, bc, Nat.zero_le _, rfl, HX5, by rw [unhide HA0]; exact HB40, by rw [unhide HA0]; exact HAT40, HPR0⟩
  case round =>
    clear HX5 HB40 HAT40 HPR0
    obtain ⟨i, x1, x3, x5, x2, x4, x6, hi, rfl, HXr, HBr, HAr, HPr⟩ := hrel
    have zr := (unhide HXr).size
    by_cases hlt : i < pss.length
    · have bi : (i : Int) < (pss.length : Int) := by omega
      have hpm : pss.length ≤ 9223372036854775807 := by
        have h9 := (unhide HPr).1
        rcases (unhide HPr).2.1.2 with ⟨_, e0⟩ | ⟨g9, cap9, cur9, _, _, _, hn9, hm9, _⟩
        · omega
        · unfold maxLen at hm9; omega
      have wi : IntKind.i64.wrap ((i : Int) + 1) = (i : Int) + 1 := by rw [IntKind.wrap_i64] <;> omega
      obtain ⟨pb, po, ra, rc, hpa, hcell, hints⟩ := (unhide HPr).at i hlt
      subst hpa
      have hC := fun W (hW : Ext wr W) => (unhide HP) pss (unhide HFL) i hlt W _ _ _ _ ((unhide HF1).trans ((unhide HX3).trans ((unhide HXr).trans hW))) ((unhide HAr).ext hW) (hints.ext hW)
      have hpb : V4.heap.size ≤ pb ∧ pb < wr.heap.size := (unhide HPr).2.1.lt pb rfl
      obtain ⟨di, hdi⟩ : ∃ x, x = A pss i := ⟨_, rfl⟩
      obtain ⟨dn, hdn⟩ : ∃ x, x = A pss (i + 1) := ⟨_, rfl⟩
      obtain ⟨pi, hpi⟩ : ∃ x, x = pss.getD i [] := ⟨_, rfl⟩
      rw [← hpi] at hC hcell
      clear hpi
      rw [← hdi, ← hdn] at hC
      rw [← hdi] at HBr HAr
      unfold scrV at hC
      have HC := hide hC
      have HDN := hide hdn
      clear hC hints hdi hdn
      go_wp2_with fail
      refine wp_region_held_drew (S := fun W => W.cell? ⟨pb, po + i, none⟩ = some (.slice ra pi.length rc)) (by kernel_rfl) hcell (fun hHeld => ?_)
      refine wpAnyH_take (i := 1) (v := ?_) rfl (by kernel_rfl) (by kernel_rfl) (by kernel_rfl) (fun _ _ _ h => h) (Or.inl ⟨by rfl, ?_⟩) (by assumption) ?_
      rotate_left
      · intro w' hSw; go_simp <;> with_reducible rfl
      simp only [Act.put, qA, qB, qC, qD, qE, qF]
      refine wpAnyH_take (i := 2) (v := ?_) rfl (by kernel_rfl) (by kernel_rfl) (by kernel_rfl) (fun _ _ _ h => h) (Or.inl ⟨by rfl, ?_⟩) (by assumption) ?_
      rotate_left
      · intro w' hSw; go_simp <;> with_reducible rfl
      simp only [Act.put, qA, qB, qC, qD, qE, qF]
      refine wpAnyH_take (i := 3) (v := ?_) rfl (by kernel_rfl) (by kernel_rfl) (by kernel_rfl) (fun _ _ _ h => h) (Or.inl ⟨by rfl, ?_⟩) (by assumption) ?_
      rotate_left
      · intro w' hSw; go_simp <;> with_reducible rfl
      simp only [Act.put, qA, qB, qC, qD, qE, qF]
      refine wpAnyH_take (i := 4) (v := ?_) rfl (by kernel_rfl) (by kernel_rfl) (by kernel_rfl) (fun _ _ _ h => h) (Or.inl ⟨by rfl, ?_⟩) (by assumption) ?_
      rotate_left
      · intro w' hSw; go_simp <;> with_reducible rfl
      simp only [Act.put, qA, qB, qC, qD, qE, qF]
      have G := hide ((Ext.refl wr).drew)
      have HCell := hide hcell
      generalize wr.drew = Wr0 at *
      refine wpAnyH_ready (rs := [0]) (by kernel_rfl) (by simp) ?_
      refine AllReadyH.cons rfl (fun K hK => ?_) AllReadyH.nil
      refine step_load_blk rfl 26 _ rfl (w3.heap.size + 1) rfl _ _ _ _ ((unhide G).kept (unhide HBr)) Tryz.underlying26 rfl infoScr8 ?_
      refine hK.out _ _ (by assumption) (fun hHeld => ?_)
      clear hK K
      simp only [Act.put, qA, qB, qC, qD, qE, qF]
      refine wpAnyH_ready (rs := [5]) (by kernel_rfl) (by simp) ?_
      refine AllReadyH.cons rfl (fun K hK => ?_) AllReadyH.nil
      go_simp
      refine ((unhide HC) _ (unhide G)).mono ?_
      rintro e w6 ⟨gv6, hv6, bv6, rfl, hat6, E6⟩
      obtain ⟨y1, y2, y3, y4, y5, y6, e1, e2, e3⟩ := (hat6 w6 (Fr.refl _ _)).forms
      subst e1
      subst e2
      subst e3
      have G6 : Ext wr w6 := (unhide G).trans E6
      have zG := (unhide G).size
      have z6 := E6.size
      refine hK.out _ _ (G6.cell (unhide HCell)) (fun hHeld => ?_)
      clear hK K
      refine wpAnyH_ready (rs := [6]) (by kernel_rfl) (by simp) ?_
      refine AllReadyH.cons rfl (fun K hK => ?_) AllReadyH.nil
      refine wp_store_blk 26 _ _ rfl rfl (w3.heap.size + 1) rfl _ _ _ rfl (G6.kept (unhide HBr)) infoScr8 rfl (by simp [Value.oneCell']) ?_
      intro Y hYB hYF
      have hbr := lt_of_block (unhide HBr)
      refine hK.out _ _ ((World.cell?_of_block (a := ⟨pb, po + i, none⟩) (hYF.block pb (by omega) (by omega))).trans (G6.cell (unhide HCell))) (fun hHeld => ?_)
      have HXn : Hid (Ext V3 Y) := hide (hYF.ext ((unhide HXr).trans G6) (fun q hq => by omega))
      have HAn : Hid (ScrAt Y dn (.slice y1 dn.R y2) (.slice y3 dn.hold.length y4) (.slice y5 dn.nb y6)) := hide (hat6 Y (hYF.mono (fun q hq => by omega)))
      have HPn : Hid (PcsRow Y V4.heap.size (.slice (some ⟨pb, po, none⟩) pss.length pc) vs pss) := hide (((unhide HPr).fr (S := fun _ => False) (Fr.of_ext G6) (fun _ _ _ h => h)).fr hYF (fun g hg _ e => by omega))
      have HBn := hide hYB
      clear hK K hYB hYF hat6 E6 G6 hHeld HC HCell
      refine wpAnyH_done (by kernel_rfl) ?_ _
      go_wp2
      go_roundw
      case rel => exact ⟨i + 1, y1, y3, y5, y2, y4, y6, by omega, by go_num, HXn, by rw [← unhide HDN]; exact HBn, by rw [← unhide HDN]; exact HAn, HPn⟩
      case measure => simp [intOf]; omega
    · obtain rfl : i = pss.length := by omega
      have bi : ¬ ((pss.length : Nat) : Int) < (pss.length : Int) := by omega
      have hEn := (unhide HAn) pss (unhide HFL)
      rw [hEn] at HBr HAr
      have HDr2 := hide ((unhide HDr) wr ((unhide HF1).trans ((unhide HX3).trans (unhide HXr))))
      clear hEn HDr
      go_wp2_with fail
      refine (unhide HDr2).mono ?_
      rintro e w6 ⟨gv6, hv6, bv6, yv6, rfl, hat6, hy6, F6⟩
      obtain ⟨y1, y2, y3, y4, y5, y6, e1, e2, e3⟩ := hat6.forms
      subst e1
      subst e2
      subst e3
      obtain ⟨ya6, yc6, hyv6, _, _⟩ := id hy6
      subst hyv6
      have HAT6 : Hid (ScrAt w6 d (.slice y1 d.R y2) (.slice y3 d.hold.length y4) (.slice y5 d.nb y6)) := hide hat6
      have HF6 := hide F6
      clear hat6 hy6 F6 HDr2
      obtain ⟨V6, hV6⟩ : ∃ V, V = w6.alloc (.cells #[.int .i64 d.cols, .int .i64 d.rows, .slice y1 d.R y2, .int .i64 d.row, .int .i64 d.col, .bool d.late, .slice y3 d.hold.length y4, .slice y5 d.nb y6] 26) := ⟨_, rfl⟩
      have EV6 : Ext w6 V6 := by rw [hV6]; exact (Ext.refl _).alloc _
      have HB6 : Hid (V6.heap[w6.heap.size]? = some (.cells #[.int .i64 d.cols, .int .i64 d.rows, .slice y1 d.R y2, .int .i64 d.row, .int .i64 d.col, .bool d.late, .slice y3 d.hold.length y4, .slice y5 d.nb y6] 26 (0, 0))) := hide (by rw [hV6]; exact new_block _ _)
      have zV6 : V6.heap.size = w6.heap.size + 1 := by rw [hV6]; simp
      have HV6 := hide hV6
      have HEV6 := hide EV6
      clear hV6 EV6
      have HG : Hid (Ext V3 V6) := hide ((unhide HXr).trans ((unhide HF6).trans (unhide HEV6)))
      have HGr : Hid (Ext wr V6) := hide ((unhide HF6).trans (unhide HEV6))
      have HBs := hide ((unhide HG).kept (unhide HB1b))
      have HBm := hide ((unhide HG).kept (unhide HB2b))
      have HBo := hide ((unhide HG).kept (unhide HB3))
      have HBa := hide ((unhide HGr).kept (unhide HBr))
      have HAs : Hid (ScrAt V6 d (.slice ga d.R gc) (.slice ha d.hold.length hc) (.slice ba d.nb bc)) := hide ((unhide HAT1).ext ((unhide HX3).trans (unhide HG)))
      have HAm : Hid (ScrAt V6 Fin (.slice ga2 Fin.R gc2) (.slice ha2 Fin.hold.length hc2) (.slice ba2 Fin.nb bc2)) := hide ((unhide HAT2).ext ((unhide HEV2).trans ((unhide HF3).trans ((unhide HEV3).trans (unhide HG)))))
      have HAo : Hid (ScrAt V6 Fin (.slice ga3 Fin.R gc3) (.slice ha3 Fin.hold.length hc3) (.slice ba3 Fin.nb bc3)) := hide ((unhide HAT3).ext ((unhide HEV3).trans (unhide HG)))
      have HAa := hide ((unhide HAr).ext (unhide HGr))
      have HAd := hide ((unhide HAT6).ext (unhide HEV6))
      have HC1 := hide (fun W (hW : Ext V6 W) => SameScreen_any d _ _ _ _ _ _ W ((unhide HAs).ext hW) ((unhide HAd).ext hW) (unhide HFd).R (unhide HFd).C (by omega))
      have HC2 := hide (fun W (hW : Ext V6 W) => SameScreen_any Fin _ _ _ _ _ _ W ((unhide HAo).ext hW) ((unhide HAm).ext hW) (unhide HFf).R (unhide HFf).C (by omega))
      have HC3 := hide (fun W (hW : Ext V6 W) => SameScreen_any Fin _ _ _ _ _ _ W ((unhide HAa).ext hW) ((unhide HAm).ext hW) (unhide HFf).R (unhide HFf).C (by omega))
      unfold scrV at HC1 HC2 HC3
      unfold scrV
      go_wp2_with (show wpList _ _ _ (List.cons ⟨_, .load 26 _, _, _, _, _⟩ _) _ _; first
        | (rw [← unhide HV6]; refine wpList_load_blk rfl 26 _ rfl w1.heap.size rfl _ _ _ _ (unhide HBs) Tryz.underlying26 rfl infoScr8 ?_)
        | (refine wpList_load_blk rfl 26 _ rfl w6.heap.size rfl _ _ _ _ (unhide HB6) Tryz.underlying26 rfl infoScr8 ?_))
      refine ((unhide HC1) V6 (Ext.refl _)).mono ?_
      rintro e w7 ⟨rfl, F7⟩
      have HBo7 := hide (F7.kept (unhide HBo))
      have HBm7 := hide (F7.kept (unhide HBm))
      have HF7 := hide F7
      clear F7 HC1
      go_wp2_with (show wpList _ _ _ (List.cons ⟨_, .load 26 _, _, _, _, _⟩ _) _ _; first | (refine wpList_load_blk_g (by rfl) 26 _ rfl (w3.heap.size) rfl _ _ _ _ (unhide HBo7) Tryz.underlying26 rfl infoScr8 ?_) | (refine wpList_load_blk_g (by rfl) 26 _ rfl (w2.heap.size) rfl _ _ _ _ (unhide HBm7) Tryz.underlying26 rfl infoScr8 ?_))
      refine ((unhide HC2) w7 (unhide HF7)).mono ?_
      rintro e w8 ⟨rfl, F8⟩
      have HF8 := hide ((unhide HF7).trans F8)
      have HBa8 := hide ((unhide HF8).kept (unhide HBa))
      have HBm8 := hide ((unhide HF8).kept (unhide HBm))
      clear F8 HC2 HBo7 HBm7
      go_wp2_with (show wpList _ _ _ (List.cons ⟨_, .load 26 _, _, _, _, _⟩ _) _ _; first | (refine wpList_load_blk_g (by rfl) 26 _ rfl (w3.heap.size + 1) rfl _ _ _ _ (unhide HBa8) Tryz.underlying26 rfl infoScr8 ?_) | (refine wpList_load_blk_g (by rfl) 26 _ rfl (w2.heap.size) rfl _ _ _ _ (unhide HBm8) Tryz.underlying26 rfl infoScr8 ?_))
      refine ((unhide HC3) w8 (unhide HF8)).mono ?_
      rintro e w9 ⟨rfl, F9⟩
      have HF9 := hide ((unhide HF8).trans F9)
      have HBo9 := hide ((unhide HF9).kept (unhide HBo))
      have HBs9 := hide ((unhide HF9).kept (unhide HBs))
      have HAo9 := hide ((unhide HAo).ext (unhide HF9))
      have HAs9 := hide ((unhide HAs).ext (unhide HF9))
      clear F9 HC3 HBa8 HBm8
      have o0 : w9.cell? ⟨w3.heap.size, 0, none⟩ = some (.int .i64 Fin.cols) := cells_of (unhide HBo9) 0 _ rfl
      have o1 : w9.cell? ⟨w3.heap.size, 1, none⟩ = some (.int .i64 Fin.rows) := cells_of (unhide HBo9) 1 _ rfl
      have o2 : w9.cell? ⟨w3.heap.size, 2, none⟩ = some (.slice ga3 Fin.R gc3) := cells_of (unhide HBo9) 2 _ rfl
      have o3 : w9.cell? ⟨w3.heap.size, 3, none⟩ = some (.int .i64 Fin.row) := cells_of (unhide HBo9) 3 _ rfl
      have o4 : w9.cell? ⟨w3.heap.size, 4, none⟩ = some (.int .i64 Fin.col) := cells_of (unhide HBo9) 4 _ rfl
      have o5 : w9.cell? ⟨w3.heap.size, 5, none⟩ = some (.bool Fin.late) := cells_of (unhide HBo9) 5 _ rfl
      have o6 : w9.cell? ⟨w3.heap.size, 6, none⟩ = some (.slice ha3 Fin.hold.length hc3) := cells_of (unhide HBo9) 6 _ rfl
      have o7 : w9.cell? ⟨w3.heap.size, 7, none⟩ = some (.slice ba3 Fin.nb bc3) := cells_of (unhide HBo9) 7 _ rfl
      have s0 : w9.cell? ⟨w1.heap.size, 0, none⟩ = some (.int .i64 d.cols) := cells_of (unhide HBs9) 0 _ rfl
      have s1 : w9.cell? ⟨w1.heap.size, 1, none⟩ = some (.int .i64 d.rows) := cells_of (unhide HBs9) 1 _ rfl
      have s2 : w9.cell? ⟨w1.heap.size, 2, none⟩ = some (.slice ga d.R gc) := cells_of (unhide HBs9) 2 _ rfl
      have s3 : w9.cell? ⟨w1.heap.size, 3, none⟩ = some (.int .i64 d.row) := cells_of (unhide HBs9) 3 _ rfl
      have s4 : w9.cell? ⟨w1.heap.size, 4, none⟩ = some (.int .i64 d.col) := cells_of (unhide HBs9) 4 _ rfl
      have s5 : w9.cell? ⟨w1.heap.size, 5, none⟩ = some (.bool d.late) := cells_of (unhide HBs9) 5 _ rfl
      have s6 : w9.cell? ⟨w1.heap.size, 6, none⟩ = some (.slice ha d.hold.length hc) := cells_of (unhide HBs9) 6 _ rfl
      have s7 : w9.cell? ⟨w1.heap.size, 7, none⟩ = some (.slice ba d.nb bc) := cells_of (unhide HBs9) 7 _ rfl
      have HK1 := hide (fun W (hW : Ext w9 W) => implScreenOk_any Fin _ _ _ ok (unhide HO1) W ((unhide HAo9).ext hW) (unhide HFf))
      have HK2 := hide (fun W (hW : Ext w9 W) => specScreenOk_any d _ _ _ ok (unhide HO2) W ((unhide HAs9).ext hW) (unhide HFd))
      unfold scrV at HK1 HK2
      have hbk := (unhide HKB).1
      have hnl : ¬ (Fin.nb : Int) < (d.nb : Int) := by omega
      have hoo : (ok != ok) = false := by cases ok <;> rfl
      go_wp2_with fail
      go_region_held3 (fun W => Ext w9 W ∧ W.cell? ⟨w3.heap.size, 0, none⟩ = some (.int .i64 Fin.cols) ∧ W.cell? ⟨w3.heap.size, 1, none⟩ = some (.int .i64 Fin.rows) ∧ W.cell? ⟨w3.heap.size, 2, none⟩ = some (.slice ga3 Fin.R gc3) ∧ W.cell? ⟨w3.heap.size, 3, none⟩ = some (.int .i64 Fin.row) ∧ W.cell? ⟨w3.heap.size, 4, none⟩ = some (.int .i64 Fin.col) ∧ W.cell? ⟨w3.heap.size, 5, none⟩ = some (.bool Fin.late) ∧ W.cell? ⟨w3.heap.size, 6, none⟩ = some (.slice ha3 Fin.hold.length hc3) ∧ W.cell? ⟨w3.heap.size, 7, none⟩ = some (.slice ba3 Fin.nb bc3) ∧ W.cell? ⟨w1.heap.size, 0, none⟩ = some (.int .i64 d.cols) ∧ W.cell? ⟨w1.heap.size, 1, none⟩ = some (.int .i64 d.rows) ∧ W.cell? ⟨w1.heap.size, 2, none⟩ = some (.slice ga d.R gc) ∧ W.cell? ⟨w1.heap.size, 3, none⟩ = some (.int .i64 d.row) ∧ W.cell? ⟨w1.heap.size, 4, none⟩ = some (.int .i64 d.col) ∧ W.cell? ⟨w1.heap.size, 5, none⟩ = some (.bool d.late) ∧ W.cell? ⟨w1.heap.size, 6, none⟩ = some (.slice ha d.hold.length hc) ∧ W.cell? ⟨w1.heap.size, 7, none⟩ = some (.slice ba d.nb bc)) (first | exact ⟨E12, (E12).cell o0, (E12).cell o1, (E12).cell o2, (E12).cell o3, (E12).cell o4, (E12).cell o5, (E12).cell o6, (E12).cell o7, (E12).cell s0, (E12).cell s1, (E12).cell s2, (E12).cell s3, (E12).cell s4, (E12).cell s5, (E12).cell s6, (E12).cell s7⟩ | exact ⟨E11, (E11).cell o0, (E11).cell o1, (E11).cell o2, (E11).cell o3, (E11).cell o4, (E11).cell o5, (E11).cell o6, (E11).cell o7, (E11).cell s0, (E11).cell s1, (E11).cell s2, (E11).cell s3, (E11).cell s4, (E11).cell s5, (E11).cell s6, (E11).cell s7⟩ | exact ⟨(Ext.refl w9).drew, o0, o1, o2, o3, o4, o5, o6, o7, s0, s1, s2, s3, s4, s5, s6, s7⟩) (first
        | (go_at_call 11
           refine ((unhide HK1) w9.drew (Ext.refl w9).drew).mono ?_
           rintro e w11 ⟨rfl, G11⟩
           have E11 : Ext w9 w11 := (Ext.refl w9).drew.trans G11)
        | (go_at_call 12
           refine ((unhide HK2) w11 E11).mono ?_
           rintro e w12 ⟨rfl, G12⟩
           have E12 : Ext w9 w12 := E11.trans G12))
      have p7 := E12.cell o7
      have r7 := E12.cell s7
      have hAo12 := ((unhide HAo9).ext E12).2.2
      have hAs12 := ((unhide HAs9).ext E12).2.2
      have hcap : Fin.nb ≤ bc3 := by
        obtain ⟨_, cc9, e9, h9, _⟩ := hAo12
        have := (Value.slice.inj e9).2.2
        omega
      have hcapI : (d.nb : Int) ≤ (bc3 : Int) := by omega
      have hrow : Row1At w12 (.slice ba3 d.nb bc3) d.nb (fun j => .string (Fin.bk j)) := by
        obtain ⟨ao9, cc9, e9, h9, hx9⟩ := hAo12
        obtain ⟨g1, g2, g3⟩ := Value.slice.inj e9
        subst g1
        subst g3
        refine ⟨_, _, rfl, by omega, fun hp => ?_⟩
        obtain ⟨b8, o8, e8, h8⟩ := hx9 (by omega)
        exact ⟨b8, o8, e8, fun j hj => h8 j (by omega)⟩
      have HST := hide (fun W (hW : Ext w12 W) => sameTexts_any _ _ d.nb d.nb Fin.bk d.bk W (hrow.ext hW) (hAs12.ext hW) (by omega) (by omega) true (by simp only [true_iff]; exact ⟨rfl, fun j hj => (unhide HKB).2 j hj⟩))
      have HEE : Hid (Ext w w12) := hide ((unhide HF1).trans ((unhide HX3).trans ((unhide HG).trans ((unhide HF9).trans E12))))
      clear hrow hAo12 hAs12 o0 s0 o1 s1 o2 s2 o3 s3 o4 s4 o5 s5 o6 s6 o7 s7
      go_wp2_with fail
      go_region_held3 (fun W => Ext w12 W ∧ W.cell? ⟨w3.heap.size, 7, none⟩ = some (.slice ba3 Fin.nb bc3) ∧ W.cell? ⟨w1.heap.size, 7, none⟩ = some (.slice ba d.nb bc)) (first | exact ⟨E14, E14.cell p7, E14.cell r7⟩ | exact ⟨(Ext.refl w12).drew, p7, r7⟩) (first
        | (go_at_call 13
           refine ((unhide HST) w12.drew (Ext.refl w12).drew).mono ?_
           rintro e w14 ⟨rfl, G14⟩
           have E14 : Ext w12 w14 := (Ext.refl w12).drew.trans G14))
      have HE14 := hide E14
      clear p7 r7
      go_wp2
      go_ret
      exact ⟨rfl, ((unhide HEE).trans (unhide HE14)).below⟩
theorem fnStreamed_great (ca ma : Option Addr) (cn cc mn mc : Nat) (w : World) (h : ¬ cn ≤ 1048576 ∨ ¬ mn ≤ 1048576) :
    Calls Tryz.prog 3 #[.slice ca cn cc, .slice ma mn mc] w fun e w' => e = .returned (.bool true) ∧ Below w.heap.size w w' := by
  by_cases h1 : cn ≤ 1048576
  · have b1 : ¬ (1048576 : Int) < (cn : Int) := by omega
    have b2 : (1048576 : Int) < (mn : Int) := by omega
    go_enter Tryz.func3, Tryz.ntmps3
    go_wp2
    go_ret
    exact ⟨rfl, (Ext.refl w).below⟩
  · have b1 : (1048576 : Int) < (cn : Int) := by omega
    go_enter Tryz.func3, Tryz.ntmps3
    go_wp2
    go_ret
    exact ⟨rfl, (Ext.refl w).below⟩
theorem fnStreamed_walk (cv mv : Value) (xs ms : List Int) (w : World) (hc : IntsAt w .u8 cv xs) (hm : IntsAt w .u8 mv ms) (hX : Bytes xs) (hM : Bytes ms) (hT : Tabs3 w) :
    Calls Tryz.prog 3 #[cv, mv] w fun e w' => e = .returned (.bool true) ∧ Below w.heap.size w w' := by
  by_cases hl : xs.length ≤ 1048576 ∧ ms.length ≤ 1048576
  · obtain ⟨hl1, hl2⟩ := hl
    have hXt : Bytes (xs.take 1000) := fun n hn => hX n (List.mem_of_mem_take hn)
    obtain ⟨d, ys, hdr⟩ : ∃ d ys, drF (xs.take 1000) = (d, ys) := ⟨_, _, rfl⟩
    have hdw : Drawn d := by
      have h9 : Drawn (drF (xs.take 1000)).1 := drA_drawn _ _
      rw [hdr] at h9
      exact h9
    obtain ⟨hyB, hy0, hyl⟩ : Bytes ys ∧ 0 < ys.length ∧ ys.length ≤ 300 := by
      have h9 := drF_bytes hXt
      rw [hdr] at h9
      exact h9
    have hhl := hdw.fits.hold
    by_cases hok : OkP d
    · have hmd := hdw.modest hok
      have hh := hok.hold
      have hfe := hmd.feed (by omega) ys hyB hyl
      refine streamed_core cv mv xs ms w d (d.feed rowT ys) ys (fun pss i => after d pss i) true hc hm hX hM hl1 hl2 hdr hyl ?_ ?_ ?_ (fun pss => rfl) (fun pss hf => ?_) (by simp only [true_iff]; exact hfe.ok) (by simp only [true_iff]; exact hok) (keep_feed rowT d ys) hdw.fits (hfe.fits (by omega)) (by have := hdw.nb; omega) (by have := hfe.nb; omega)
      · intro W gv hv bv yv hat hy
        refine (specFeed_yes d gv hv bv yv ys W hat hdw.fits hy hok hdw.by' hyB 1600 hmd.wt (by omega) (by omega) (by have := hdw.nb; omega) (by omega)).mono ?_
        rintro e w' ⟨g, rv, h, b, rfl, o, F⟩
        exact ⟨_, _, _, rfl, o.reads, F⟩
      · intro W gv hv bv yv hW hat hy
        refine (implFeed_yes d gv hv bv yv ys W hat hdw.fits hy hok hdw.by' hyB (hmd.room (by omega) (by omega) (by omega) _ (by omega)) (by omega) (hT.ext hW)).mono ?_
        rintro e w' ⟨g, rv, h, b, rfl, o, F⟩
        exact ⟨_, _, _, rfl, o.toS.reads, F⟩
      · intro pss hf i hi W gv hv bv pv hW hat hp
        have hbf : Bytes pss.flatten := by rw [hf]; exact hyB
        have hlf : pss.flatten.length ≤ 300 := by rw [hf]; exact hyl
        have hmi := after_modest hmd pss hbf hlf i
        have hpl := piece_le pss i hi
        have hih := hmi.ok.hold
        refine (implFeed_yes (after d pss i) gv hv bv pv (pss.getD i []) W hat (hmi.fits (by omega)) hp hmi.ok hmi.by' (fun n hn => hbf n (hpl.2 n hn)) (hmi.room (by omega) (by omega) (by omega) _ (by omega)) (by omega) (hT.ext hW)).mono ?_
        rintro e w' ⟨g, rv, h, b, rfl, o, F⟩
        refine ⟨g, h, b, by rw [after_step d pss i hi], fun W' hW' => ?_, F⟩
        show ScrAt W' (after d pss (i + 1)) g h b
        rw [← after_step d pss i hi]
        exact (o.toS.fr hW' (fun q hq e => by have := (o.toS.foot hq).1; omega)).reads
      · show after d pss pss.length = d.feed rowT ys
        unfold after
        by_cases h0 : pss.length = 0
        · have e0 : pss = [] := List.eq_nil_of_length_eq_zero h0
          subst e0
          have e9 : ys = [] := by rw [← hf]; rfl
          rw [e9] at hy0
          simp at hy0
        · rw [if_neg h0, List.take_length, hf]
    · refine streamed_core cv mv xs ms w d d ys (fun _ _ => d) false hc hm hX hM hl1 hl2 hdr hyl ?_ ?_ ?_ (fun _ => rfl) (fun _ _ => rfl) (by simp [hok]) (by simp [hok]) (KeepB.refl d) hdw.fits hdw.fits (by have := hdw.nb; omega) (by have := hdw.nb; omega)
      · intro W gv hv bv yv hat hy
        exact specFeed_no d gv hv bv yv ys W hat hdw.fits hy hok
      · intro W gv hv bv yv hW hat hy
        refine (implFeed_no d gv hv bv yv ys W hat hdw.fits hy hok).mono ?_
        rintro e w' ⟨g, rv, h, b, rfl, o, F⟩
        exact ⟨_, _, _, rfl, o.reads, F⟩
      · intro pss hf i hi W gv hv bv pv hW hat hp
        refine (implFeed_no d gv hv bv pv (pss.getD i []) W hat hdw.fits hp hok).mono ?_
        rintro e w' ⟨g, rv, h, b, rfl, o, F⟩
        exact ⟨g, h, b, rfl, fun W' hW' => (o.fr hW' (fun q hq e => by have := (o.foot hq).1; omega)).reads, F⟩
  · obtain ⟨ca, cc, rfl, _, _⟩ := hc
    obtain ⟨ma, mc, rfl, _, _⟩ := hm
    exact fnStreamed_great _ _ _ _ _ _ w (by omega)
end Go.Proofs.YtinfdhbnljnifaaGreatDoor
