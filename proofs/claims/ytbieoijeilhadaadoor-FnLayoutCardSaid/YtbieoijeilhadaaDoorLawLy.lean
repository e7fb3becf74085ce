import Derived.Test.YtbieoijeilhadaaDoorDrY
import Derived.Test.YtbieoijeilhadaaDoorGdC
import Derived.Test.YtbieoijeilhadaaDoorLayS2
namespace Go.Proofs.YtbieoijeilhadaaDoor
open Go.RowKit
set_option linter.unusedSimpArgs false in
set_option maxRecDepth 10000 in
set_option maxHeartbeats 4000000 in
theorem fnLayout_walk (v : Value) (code : List Int) (w : World) (hv : IntsAt w .u8 v code) (hB : Bytes code) (hT : Laid w) :
    Calls Tryd.prog 5 #[v] w fun e w' => e = .returned (.bool true) ∧ Below w.heap.size w w' := by
  have HD := hide (fun (hl : code.length ≤ 1048576) => DrawLayout_any v code w hv hB hl)
  have HT := hide hT
  obtain ⟨va, vc, rfl, _⟩ := id hv
  clear hv hT
  by_cases hl : code.length ≤ 1048576
  · have hl2 : ¬ ((1048576 : Int) < (code.length : Int)) := by omega
    go_enter Tryd.func5, Tryd.ntmps5
    go_wp2_with fail
    refine ((unhide HD) hl).mono ?_
    rintro e w1 ⟨⟨P0, a0, b0, c, un, ua, uc, cols, rows, rfl, hP, ha, hb, hc1, hc2, hr1, hr2⟩, E1⟩
    obtain ⟨P, rfl, hPb⟩ : ∃ P, P0 = toBA P ∧ Bytes P := ⟨baL P0, (toBA_baL P0).symm, baL_bytes P0⟩
    obtain ⟨A, rfl, hAb⟩ : ∃ A, a0 = toBA A ∧ Bytes A := ⟨baL a0, (toBA_baL a0).symm, baL_bytes a0⟩
    obtain ⟨B, rfl, hBb⟩ : ∃ B, b0 = toBA B ∧ Bytes B := ⟨baL b0, (toBA_baL b0).symm, baL_bytes b0⟩
    rw [toBA_size] at hP ha hb
    have HPb := hide hPb
    have HAb := hide hAb
    have HBb := hide hBb
    have bL := new_block w1 (.cells #[.string (toBA A), .string (toBA B), .string c, .slice ua un.length uc] 46)
    obtain ⟨V, hV⟩ : ∃ V, V = w1.alloc (.cells #[.string (toBA A), .string (toBA B), .string c, .slice ua un.length uc] 46) := ⟨_, rfl⟩
    have EV : Ext w1 V := by rw [hV]; exact (Ext.refl w1).alloc _
    rw [← hV] at bL
    have HBL := hide bL
    have HEV := hide (E1.trans EV)
    have HV := hide hV
    clear hV EV bL HD E1 hPb hAb hBb
    cases hs : sizeB cols rows
    · have HS := hide (specLayout_no (toBA P) (toBA A) (toBA B) c ua un.length uc cols rows V hs)
      have HI := hide (fun W => implLayout_no (toBA P) (toBA A) (toBA B) c ua un.length uc cols rows W hs)
      clear hs
      go_wp2_with fail
      rw [← unhide HV]
      clear HV
      refine (unhide HS).mono ?_
      rintro e w2 ⟨rfl, E2⟩
      have kL := fun (q : Obj) => ((Ext.refl w2).alloc q).kept (E2.kept (unhide HBL))
      have l0 := fun q => cells_of (kL q) 0 _ rfl
      have l1 := fun q => cells_of (kL q) 1 _ rfl
      have l2 := fun q => cells_of (kL q) 2 _ rfl
      have l3 := fun q => cells_of (kL q) 3 _ rfl
      have HE2 := hide ((unhide HEV).trans E2)
      have bM := new_block w2 (.cells bzero 51)
      have HBM := hide bM
      clear kL E2 HS HEV bM
      go_wp2_with fail
      refine ((unhide HI) _).mono ?_
      rintro e w3 ⟨rfl, E3⟩
      have E3' := ((unhide HE2).alloc _).trans E3
      have kM := fun (q : Obj) => ((Ext.refl w3).alloc q).kept (E3.kept (unhide HBM))
      have m0 := fun q => cells_of (kM q) 0 _ rfl
      have HE3 := hide E3'
      clear l0 l1 l2 l3 HI HE2 E3 E3' kM
      go_wp2
      exact bodyPost_ret (v := .bool true) (by simp [results, Tryd.results5, go_sem]) rfl ⟨rfl, ((unhide HE3).alloc _).below⟩
    · obtain ⟨cn, rn, rfl, rfl, n2, n200, r1, r100⟩ := sizeB_open hs
      have HS := hide (specLayout_yes P A B c ua un.length uc cn rn V hs (unhide HPb) (unhide HAb) (unhide HBb) (by omega) (by omega) (by omega))
      have HI := hide (fun W (hW : Ext w W) => implLayout_yes P A B c ua un.length uc cn rn W hs (unhide HPb) (unhide HAb) (unhide HBb) (by omega) (by omega) (by omega) ((unhide HT).below hW.below))
      have hwid := (cutC_wides P).app (cutC_wides A) |>.app (cutC_wides B)
      have hgood : ∀ c ∈ cutC P ++ cutC A ++ cutC B, GoodC c := by
        intro c hc
        simp only [List.mem_append] at hc
        rcases hc with (hc | hc) | hc
        · exact cutC_good _ c hc
        · exact cutC_good _ c hc
        · exact cutC_good _ c hc
      have htx : textC (cutC P ++ cutC A ++ cutC B) = settleL P ++ settleL A ++ settleL B := by rw [textC_app, textC_app]; rfl
      have sP := settleL_len P
      have sA := settleL_len A
      have sB := settleL_len B
      have hplen : (cutC P).length + (cutC A).length ≤ (cutC P ++ cutC A ++ cutC B).length := by simp
      have hcuts := ((cuts_one P).app (cuts_one A)).app (cuts_one B)
      obtain ⟨D0, hD0⟩ : ∃ D0, D0 = cutC P ++ cutC A ++ cutC B := ⟨_, rfl⟩
      obtain ⟨p0, hp0⟩ : ∃ p0, p0 = (cutC P).length + (cutC A).length := ⟨_, rfl⟩
      rw [← hD0, ← hp0] at HS HI
      rw [← hD0] at hwid hgood htx hplen hcuts
      rw [← hp0] at hplen
      obtain ⟨n0, nr, fr, rc, hend⟩ := layCnt_pos (cs := D0) (cols := cn) (p := p0) (rows := rn) r1
      have hcol := layCol_bd hwid n2 hplen
      obtain ⟨n, hn⟩ : ∃ n, n = layCnt D0 cn p0 rn := ⟨_, rfl⟩
      obtain ⟨ri, hri⟩ : ∃ ri, ri = (layRow D0 cn p0 : Int) - (layFr D0 cn p0 rn : Int) := ⟨_, rfl⟩
      obtain ⟨ci, hci⟩ : ∃ ci, ci = layCol D0 cn p0 := ⟨_, rfl⟩
      obtain ⟨T, hTT⟩ : ∃ T, T = layT D0 cn p0 rn := ⟨_, rfl⟩
      rw [← hn, ← hri, ← hci, ← hTT] at HS HI
      rw [← hci] at hcol
      have hlen := layX_le (cs := D0) (cols := cn) (p := p0) (rows := rn)
      have HN := hide hn
      have HTT := hide hTT
      have HWD := hide hwid
      have HGD := hide hgood
      have HTX := hide htx
      have HPL := hide hplen
      have hXB : ∀ k, (layX D0 cn p0 rn k).length ≤ 40000 := fun k => by
        have h1 := hlen k
        rw [htx] at h1
        simp only [List.length_append] at h1
        omega
      have HXB := hide hXB
      have HEND := hide hend
      have HCT := hide hcuts
      have q1 : ¬ ((n : Int) = 0) := by omega
      have q2 : ¬ ((rn : Int) < (n : Int)) := by omega
      have q3 : ¬ (ri < 0) := by omega
      have q4 : ¬ ((n : Int) ≤ ri) := by omega
      have q5 : ¬ (ci < 0) := by omega
      have q6 : ¬ ((cn : Int) ≤ ci) := by omega
      have hn100 : n ≤ 100 := by omega
      have hn0 : 0 < n := by omega
      clear hs hD0 hp0 hn hri hci hTT hwid hgood htx hplen hlen hXB hend hcuts n0 nr fr rc hcol sP sA sB
      go_wp2_with fail
      rw [← unhide HV]
      clear HV
      refine (unhide HS).mono ?_
      rintro e w2 ⟨v2, rfl, o2, E2⟩
      obtain ⟨ma, mc, rfl⟩ := o2.slice
      have kL := fun (q : Obj) => ((Ext.refl w2).alloc q).kept (E2.kept (unhide HBL))
      have l0 := fun q => cells_of (kL q) 0 _ rfl
      have l1 := fun q => cells_of (kL q) 1 _ rfl
      have l2 := fun q => cells_of (kL q) 2 _ rfl
      have l3 := fun q => cells_of (kL q) 3 _ rfl
      have HE2 := hide ((unhide HEV).trans E2)
      have bM := new_block w2 (.cells #[.slice ma n mc, .int .i64 ri, .int .i64 ci] 51)
      have HBM := hide bM
      have KL := hide kL
      clear kL E2 HS HEV bM o2
      go_wp2_with fail
      refine ((unhide HI) _ ((unhide HE2).alloc _)).mono ?_
      rintro e w3 ⟨v3, rfl, o3, E3⟩
      rcases o3.form with ⟨_, e0⟩ | ⟨g, cap, rfl⟩
      · omega
      have E3' := ((unhide HE2).alloc (.cells #[.slice ma n mc, .int .i64 ri, .int .i64 ci] 51)).trans E3
      have bM := E3.kept (unhide HBM)
      have bL := E3.kept ((unhide KL) (.cells #[.slice ma n mc, .int .i64 ri, .int .i64 ci] 51))
      have kM := fun (q : Obj) => ((Ext.refl w3).alloc q).kept bM
      have m0 := fun q => cells_of (kM q) 0 _ rfl
      obtain ⟨X, hX⟩ : ∃ X, X = w3.alloc (.cells #[.slice (some ⟨g, 0, none⟩) n cap, .int .i64 ri, .int .i64 ci] 51) := ⟨_, rfl⟩
      have EX : Ext w3 X := by rw [hX]; exact (Ext.refl w3).alloc _
      have bB : X.heap[w3.heap.size]? = some (.cells #[.slice (some ⟨g, 0, none⟩) n cap, .int .i64 ri, .int .i64 ci] 51 (0, 0)) := by rw [hX]; exact new_block w3 _
      have HBB := hide bB
      have HBLX := hide (EX.kept bL)
      have HOX := hide (o3.ext EX)
      have HEX := hide (E3'.trans EX)
      have HX := hide hX
      obtain ⟨BB, hBB⟩ : ∃ BB, BB = w3.heap.size := ⟨_, rfl⟩
      clear l0 l1 l2 l3 HI HE2 E3 E3' kM bM bL EX bB hX o3 HBM KL
      go_wp2
      rw [← unhide HX]
      clear HX m0
      have hBw := lt_of_block (unhide HBB)
      rw [← hBB] at HBB
      rw [← hBB]
      clear hBB hBw
      go_loopw [9, 10, 11, 12, 13] (fun al i _ _ _ wr => ∃ k : Nat, k ≤ n ∧ al = .string (toBA (layX D0 cn p0 rn k)) ∧ i = .int .i64 k ∧ Hid (Ext X wr)) (fun _ i _ _ _ _ => n - (intOf i).toNat)
      case atStart => exact ⟨0, Nat.zero_le _, by rw [layX_zero]; rfl, rfl, hide (Ext.refl X)⟩
      case round =>
        obtain ⟨k, hk, rfl, rfl, HW⟩ := hrel
        have b0 : wr.cell? ⟨BB, 0, none⟩ = some (.slice (some ⟨g, 0, none⟩) n cap) := cells_of ((unhide HW).kept (unhide HBB)) 0 _ rfl
        by_cases hlt : k < n
        · have bk : (k : Int) < (n : Int) := by omega
          obtain ⟨R, hR⟩ : ∃ R, R = layC D0 cn p0 (layFr D0 cn p0 rn + k) := ⟨_, rfl⟩
          have hTk : T k = toBA (textC R) := by rw [unhide HTT, hR]; rfl
          have hkS : layFr D0 cn p0 rn + k < (layS D0 cn p0).length := by have := unhide HEND; have := unhide HN; omega
          have hwR : wsum R ≤ cn := by rw [hR]; exact (lay_wid (unhide HWD) n2 (unhide HPL) _ hkS).2
          have hgR : ∀ c ∈ R, GoodC c := by rw [hR]; exact goods_sub (unhide HGD) _ _
          have hstep : layX D0 cn p0 rn (k + 1) = layX D0 cn p0 rn k ++ textC R := by rw [hR]; exact layX_step (unhide HWD) n2 (unhide HPL) k hkS
          have hX1 := (unhide HXB) (k + 1)
          have hX0 := (unhide HXB) k
          have hRl : (textC R).length ≤ 40000 := by rw [hstep, List.length_append] at hX1; omega
          have gk := (((unhide HOX).ext (unhide HW)).cell hlt).1
          rw [hTk] at gk
          obtain ⟨v4, w4, hrun, h4, E4⟩ := run_s2i (P := Tryd.prog) wr _ _ _ Tryd.underlying9 Tryd.underlying22 Tryd.underlying5 (textC R) (bytes_text R)
          have HC := hide (specClean_any (textC R) (bytes_text R) v4 w4 h4 (by omega))
          have hcl : clusC (cleanL (textC R)) = R := goods_cut hgR
          have hcl2 := cleanL_len (textC R)
          have HWR := hide hwR
          have HST := hide hstep
          have HCL := hide hcl
          have HW4 := hide ((unhide HW).trans E4)
          have hwRs : Wides R := by rw [← hcl]; exact cutC_wides (textC R)
          have HWs := hide hwRs
          have hRn : R.length ≤ 40000 := by rw [← hcl]; have := clF_len (cleanL (textC R)) (cleanL (textC R)).length; exact Nat.le_trans this (by omega)
          clear hR hTk hkS hwR hgR hstep hcl E4 h4 hwRs
          go_wp2_with fail
          refine (unhide HC).mono ?_
          rintro e w5 ⟨v5, rfl, o5, E5⟩
          have HK := hide (specClusters_any v5 (cleanL (textC R)) w5 (ints_of_owns o5) (cleanL_i32 (textC R)) (by omega))
          rw [unhide HCL] at HK
          have HW5 := hide ((unhide HW4).trans E5)
          clear o5 E5 HC HW4 hrun
          go_wp2_with fail
          refine (unhide HK).mono ?_
          rintro e w6 ⟨v6, rs6, rfl, o6, E6⟩
          obtain ⟨rs7, xa, xc, hv6, _, _, hcells⟩ := o6.cls
          subst hv6
          have HCE := hide hcells
          have HW6 := hide ((unhide HW5).trans E6)
          have b6 : w6.cell? ⟨BB, 0, none⟩ = some (.slice (some ⟨g, 0, none⟩) n cap) := cells_of ((unhide HW6).kept (unhide HBB)) 0 _ rfl
          have g6 := (((unhide HOX).ext (unhide HW6)).cell hlt).1
          have hgk : wr.cell? ⟨g, k, none⟩ = some (.string (T k)) := (((unhide HOX).ext (unhide HW)).cell hlt).1
          rw [hgk] at gk
          rw [show T k = toBA (textC R) by simpa using gk] at g6
          clear hcells o6 E6 HK HW5 gk hgk b0
          go_wp2
          go_loop [12, 13] (fun wd i => ∃ j : Nat, j ≤ R.length ∧ wd = .int .i64 (pw R j) ∧ i = .int .i64 j) (fun _ i => R.length - (intOf i).toNat)
          case atStart => exact ⟨0, Nat.zero_le _, rfl, rfl⟩
          case round =>
            obtain ⟨j, hj, rfl, rfl⟩ := hrel
            by_cases hjl : j < R.length
            · have bj : (j : Int) < (R.length : Int) := by omega
              obtain ⟨b9, off9, rfl, hc9⟩ := (unhide HCE) (by omega)
              have g9 := (hc9 j hjl).2
              have hpb := pw_bd R (unhide HWs).all j
              have hcw := (unhide HWs).all j
              have hww : IntKind.i64.wrap (pw R j + cW R j) = pw R (j + 1) := by rw [IntKind.wrap_i64, pw]; omega
              obtain ⟨pj, hpj⟩ : ∃ pj, pj = pw R (j + 1) := ⟨_, rfl⟩
              rw [← hpj] at hww
              have HPJ := hide hpj
              clear hc9 hpj hpb hcw
              go_wp2
              go_round
              case rel => exact ⟨j + 1, by omega, by rw [unhide HPJ], by go_num⟩
              case measure => simp [intOf]; omega
            · obtain rfl : j = R.length := by omega
              have hle : pw R R.length ≤ (cn : Int) := unhide HWR
              have hsz : ¬ 9223372036854775807 < (toBA (layX D0 cn p0 rn k)).size + (toBA (textC R)).size := by rw [toBA_size, toBA_size]; omega
              have hap : toBA (layX D0 cn p0 rn k) ++ toBA (textC R) = toBA (layX D0 cn p0 rn (k + 1)) := by rw [toBA_app2, unhide HST]
              have HAP := hide hap
              clear hap
              go_wp2
              go_round
              case rel => exact ⟨_, _, _, ⟨k + 1, by omega, rfl, rfl⟩, rfl, by rw [unhide HAP], by go_num⟩
              case measure => simp [intOf]; omega
        · obtain rfl : k = n := by omega
          have hsz1 := settleL_len P
          have hsz2 := settleL_len A
          have hsz3 := settleL_len B
          have bLw := (unhide HW).kept (unhide HBLX)
          by_cases hfull : k = rn
          · have qf : ((k : Int) == (rn : Int)) = true := by rw [beq_iff_eq]; omega
            go_wp2
            exact bodyPost_ret (v := .bool true) (by simp [results, Tryd.results5, go_sem]) rfl ⟨rfl, ((unhide HEX).trans (unhide HW)).below⟩
          · have qf : ((k : Int) == (rn : Int)) = false := by rw [beq_eq_false_iff_ne]; omega
            have hall : layX D0 cn p0 rn k = settleL P ++ settleL A ++ settleL B := by
              have h1 := unhide HN
              rw [h1, layX_all r1 (by omega)]
              exact unhide HTX
            have HALL := hide hall
            clear hall
            have HBW := hide bLw
            clear bLw
            go_upto_region 27 with fail
            refine wp_region_held_drew (S := fun W => W.heap[w1.heap.size]? = some (.cells #[.string (toBA A), .string (toBA B), .string c, .slice ua un.length uc] 46 (0, 0))) (by kernel_rfl) (unhide HBW) (fun hHeld => ?_)
            refine wpAnyH_take (i := 0) (v := ?_) rfl (by kernel_rfl) (by kernel_rfl) (by kernel_rfl) (fun _ _ _ h => h) (Or.inl ⟨by rfl, ?_⟩) (by assumption) ?_
            rotate_left
            · intro w' hSw; go_simp <;> with_reducible rfl
            simp only [Act.put, qA, qB, qC, qD, qE, qF]
            refine wpAnyH_take (i := 1) (v := ?_) rfl (by kernel_rfl) (by kernel_rfl) (by kernel_rfl) (fun _ _ _ h => h) (Or.inl ⟨by rfl, ?_⟩) (by assumption) ?_
            rotate_left
            · intro w' hSw; go_simp <;> with_reducible rfl
            simp only [Act.put, qA, qB, qC, qD, qE, qF]
            refine wpAnyH_take (i := 3) (v := ?_) rfl (by kernel_rfl) (by kernel_rfl) (by kernel_rfl) (fun _ _ _ h => h) (Or.inl ⟨by rfl, ?_⟩) (by assumption) ?_
            rotate_left
            · intro w' hSw; go_simp <;> with_reducible rfl
            simp only [Act.put, qA, qB, qC, qD, qE, qF]
            refine wpAnyH_take (i := 4) (v := ?_) rfl (by kernel_rfl) (by kernel_rfl) (by kernel_rfl) (fun _ _ _ h => h) (Or.inl ⟨by rfl, ?_⟩) (by assumption) ?_
            rotate_left
            · intro w' hSw; have c0 := cells_of hSw 0 _ rfl; go_simp <;> with_reducible rfl
            simp only [Act.put, qA, qB, qC, qD, qE, qF]
            refine wpAnyH_take (i := 7) (v := ?_) rfl (by kernel_rfl) (by kernel_rfl) (by kernel_rfl) (fun _ _ _ h => h) (Or.inl ⟨by rfl, ?_⟩) (by assumption) ?_
            rotate_left
            · intro w' hSw; go_simp <;> with_reducible rfl
            simp only [Act.put, qA, qB, qC, qD, qE, qF]
            refine wpAnyH_take (i := 8) (v := ?_) rfl (by kernel_rfl) (by kernel_rfl) (by kernel_rfl) (fun _ _ _ h => h) (Or.inl ⟨by rfl, ?_⟩) (by assumption) ?_
            rotate_left
            · intro w' hSw; have c1 := cells_of hSw 1 _ rfl; go_simp <;> with_reducible rfl
            simp only [Act.put, qA, qB, qC, qD, qE, qF]
            have GV := (Ext.refl wr).drew
            replace HBW := hide (GV.kept (unhide HBW))
            replace HW := hide ((unhide HW).trans GV)
            clear GV
            generalize wr.drew = W0 at *
            refine wpAnyH_ready (rs := [2]) (by kernel_rfl) (by simp) ?_
            refine AllReadyH.cons rfl (fun K hK => ?_) AllReadyH.nil
            go_simp
            refine (specSettle_any P (unhide HPb) W0 (by omega)).mono ?_
            rintro e W1 ⟨rfl, FW1⟩
            replace HBW := hide (FW1.kept (unhide HBW))
            replace HW := hide ((unhide HW).trans FW1)
            clear FW1
            refine hK.out _ _ (unhide HBW) (fun hHeld => ?_)
            clear hK K
            refine wpAnyH_ready (rs := [5]) (by kernel_rfl) (by simp) ?_
            refine AllReadyH.cons rfl (fun K hK => ?_) AllReadyH.nil
            go_simp
            refine (specSettle_any A (unhide HAb) W1 (by omega)).mono ?_
            rintro e W2 ⟨rfl, FW2⟩
            replace HBW := hide (FW2.kept (unhide HBW))
            replace HW := hide ((unhide HW).trans FW2)
            clear FW2
            refine hK.out _ _ (unhide HBW) (fun hHeld => ?_)
            clear hK K
            have hz1 : ¬ 9223372036854775807 < (toBA (settleL P)).size + (toBA (settleL A)).size := by rw [toBA_size, toBA_size]; omega
            refine wpAnyH_take (i := 6) (v := ?_) rfl (by kernel_rfl) (by kernel_rfl) (by kernel_rfl) (fun _ _ _ h => h) (Or.inl ⟨by rfl, ?_⟩) (by assumption) ?_
            rotate_left
            · intro w' hSw; go_simp <;> with_reducible rfl
            simp only [Act.put, qA, qB, qC, qD, qE, qF]
            refine wpAnyH_ready (rs := [9]) (by kernel_rfl) (by simp) ?_
            refine AllReadyH.cons rfl (fun K hK => ?_) AllReadyH.nil
            go_simp
            refine (specSettle_any B (unhide HBb) W2 (by omega)).mono ?_
            rintro e W3 ⟨rfl, FW3⟩
            replace HBW := hide (FW3.kept (unhide HBW))
            replace HW := hide ((unhide HW).trans FW3)
            clear FW3
            refine hK.out _ _ (unhide HBW) (fun hHeld => ?_)
            clear hK K
            have hz2 : ¬ 9223372036854775807 < (toBA (settleL P) ++ toBA (settleL A)).size + (toBA (settleL B)).size := by rw [toBA_app2, toBA_size, toBA_size, List.length_append]; omega
            have hz3 : ¬ 9223372036854775807 < (toBA (settleL P)).size + (toBA (settleL A)).size + (toBA (settleL B)).size := by rw [toBA_size, toBA_size, toBA_size]; omega
            refine wpAnyH_take (i := 10) (v := ?_) rfl (by kernel_rfl) (by kernel_rfl) (by kernel_rfl) (fun _ _ _ h => h) (Or.inl ⟨by rfl, ?_⟩) (by assumption) ?_
            rotate_left
            · intro w' hSw; go_simp <;> with_reducible rfl
            simp only [Act.put, qA, qB, qC, qD, qE, qF]
            have hfin : toBA (layX D0 cn p0 rn k) = toBA (settleL P) ++ toBA (settleL A) ++ toBA (settleL B) := by rw [unhide HALL, toBA_app2, toBA_app2]
            have hfin3 : (toBA (layX D0 cn p0 rn k)).toList = (toBA (settleL P) ++ toBA (settleL A) ++ toBA (settleL B)).toList := by rw [hfin]
            clear hfin
            have hfin2 : ((toBA (layX D0 cn p0 rn k)).toList == (toBA (settleL P) ++ toBA (settleL A) ++ toBA (settleL B)).toList) = true := by rw [hfin3]; simp
            refine wpAnyH_take (i := 11) (v := ?_) rfl (by kernel_rfl) (by kernel_rfl) (by kernel_rfl) (fun _ _ _ h => h) (Or.inl ⟨by rfl, ?_⟩) (by assumption) ?_
            rotate_left
            · intro w' hSw; go_simp <;> with_reducible rfl
            simp only [Act.put, qA, qB, qC, qD, qE, qF]
            refine wpAnyH_take (i := 12) (v := ?_) rfl (by kernel_rfl) (by kernel_rfl) (by kernel_rfl) (fun _ _ _ h => h) (Or.inl ⟨by rfl, ?_⟩) (by assumption) ?_
            rotate_left
            · intro w' hSw; go_simp <;> with_reducible rfl
            simp only [Act.put, qA, qB, qC, qD, qE, qF]
            refine wpAnyH_done (by kernel_rfl) ?_ _
            go_wp2
            exact bodyPost_ret (v := .bool true) (by simp [results, Tryd.results5, go_sem]) rfl ⟨rfl, ((unhide HEX).trans (unhide HW)).below⟩
  · have hl2 : ((1048576 : Int) < (code.length : Int)) := by omega
    go_enter Tryd.func5, Tryd.ntmps5
    go_wp2
    exact bodyPost_ret (v := .bool true) (by simp [results, Tryd.results5, go_sem]) rfl ⟨rfl, (Ext.refl w).below⟩
end Go.Proofs.YtbieoijeilhadaaDoor
