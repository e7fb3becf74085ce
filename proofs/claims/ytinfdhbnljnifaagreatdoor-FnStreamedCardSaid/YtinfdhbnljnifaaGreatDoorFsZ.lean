import Derived.Test.YtinfdhbnljnifaaGreatDoorFkD
import Derived.Test.YtinfdhbnljnifaaGreatDoorOkSpec
namespace Go.Proofs.YtinfdhbnljnifaaGreatDoor
open Go.RowKit
set_option linter.unusedSimpArgs false in
set_option maxRecDepth 10000 in
set_option maxHeartbeats 4000000 in
theorem specFeed_no (d : SD) (gv hv bv yv : Value) (ys : List Int) (w : World) (h : ScrAt w d gv hv bv) (hF : d.Fits) (hy : IntsAt w .u8 yv ys) (hno : ¬ OkP d) :
    Calls Tryz.prog 7 #[scrV d gv hv bv, yv] w fun e w' => ∃ gv' hv' bv', e = .returned (scrV d gv' hv' bv') ∧ ScrAt w' d gv' hv' bv' ∧ Ext w w' := by
  obtain ⟨ya, yc, hyv, _, _⟩ := id hy
  subst hyv
  obtain ⟨ga, gc, ha, hc, ba, bc, e1, e2, e3⟩ := h.forms
  subst e1
  subst e2
  subst e3
  have HH := hide h
  have HF := hide hF
  have HY := hide hy
  have hb0 := sp_alloc w d (.slice ga d.R gc) (.slice ha d.hold.length hc) (.slice ba d.nb bc)
  obtain ⟨V, hV⟩ : ∃ V, V = (w.alloc (.cells #[.int .i64 d.cols, .int .i64 d.rows, .slice ga d.R gc, .int .i64 d.row, .int .i64 d.col, .bool d.late, .slice ha d.hold.length hc, .slice ba d.nb bc] 26)).alloc (.cells #[.int .i64 0, .int .i64 0, .slice none 0 0, .int .i64 0, .int .i64 0, .bool false, .slice none 0 0, .slice none 0 0] 26) := ⟨_, rfl⟩
  rw [← hV] at hb0
  have zV : V.heap.size = w.heap.size + 2 := by rw [hV]; simp
  have HVV := hide hV
  have HB := hide hb0
  have HOk := hide (specScreenOk_any d _ _ _ false (by simp [hno]) V (h.ext hb0.ext) hF)
  unfold scrV at HOk
  clear h hF hy hV hb0
  unfold scrV
  go_enter Tryz.func7, Tryz.ntmps7
  go_wp2_with fail
  rw [← unhide HVV]
  clear HVV
  refine (unhide HOk).mono ?_
  rintro e w1 ⟨rfl, F1⟩
  have E1 := (unhide HB).ext.trans F1
  have HC := hide (l2Copy_any d _ _ _ w1 ((unhide HH).ext E1) (unhide HF))
  unfold scrV at HC
  have HB0 := hide (F1.kept (unhide HB).s)
  have HBZ := hide (F1.kept (unhide HB).z)
  have z1 := F1.size
  have HE1 := hide E1
  clear HOk F1 E1 HB
  go_wp2_with (refine wpList_load_blk rfl 26 _ rfl w.heap.size rfl _ _ _ _ (unhide HB0) Tryz.underlying26 rfl infoScrN ?_)
  refine (unhide HC).mono ?_
  rintro e w2 ⟨gv', rv, hv', bv', rfl, ho, F2⟩
  replace HB0 := hide (F2.kept (unhide HB0))
  replace HBZ := hide (F2.kept (unhide HBZ))
  have HO := hide ho
  have HF2 := hide F2
  have z2 := F2.size
  obtain ⟨ga', gc', ha', hc', ba', bc', e1, e2, e3⟩ := ho.reads.forms
  subst e1
  subst e2
  subst e3
  clear ho F2 HC
  go_wp2_with (refine wpList_store_blk rfl 26 _ _ rfl rfl (w.heap.size + 1) rfl _ _ _ rfl (unhide HBZ) infoScrN rfl (by simp [Value.oneCell']) ?_; intro X HX9 hX9; have HXB := hide HX9; have HXF := hide hX9; clear HX9 hX9)
  have v0 := cells_of (unhide HXB) 0 _ rfl
  have v1 := cells_of (unhide HXB) 1 _ rfl
  have v2 := cells_of (unhide HXB) 2 _ rfl
  have v3 := cells_of (unhide HXB) 3 _ rfl
  have v4 := cells_of (unhide HXB) 4 _ rfl
  have v5 := cells_of (unhide HXB) 5 _ rfl
  have v6 := cells_of (unhide HXB) 6 _ rfl
  have v7 := cells_of (unhide HXB) 7 _ rfl
  have hO := (unhide HO).fr (unhide HXF) (fun g hg e => by have := ((unhide HO).foot hg).1; omega)
  have hEX := (unhide HXF).ext ((unhide HE1).trans (unhide HF2)) (fun q hq => by omega)
  exact bodyPost_ret (v := .agg #[.int .i64 d.cols, .int .i64 d.rows, .slice ga' d.R gc', .int .i64 d.row, .int .i64 d.col, .bool d.late, .slice ha' d.hold.length hc', .slice ba' d.nb bc']) (by simp [results, Tryz.results7, go_sem, v0, v1, v2, v3, v4, v5, v6, v7]) rfl ⟨_, _, _, rfl, hO.reads, hEX⟩
set_option linter.unusedSimpArgs false in
set_option maxRecDepth 10000 in
set_option maxHeartbeats 4000000 in
theorem specFeed_yes (d : SD) (gv hv bv yv : Value) (ys : List Int) (w : World) (h : ScrAt w d gv hv bv) (hF : d.Fits) (hy : IntsAt w .u8 yv ys) (hok : OkP d) (hbx : Bytes d.hold) (hby : Bytes ys) (M : Nat) (hwt : WtB d M) (hM2 : 200 ≤ M) (hM : M + 4 * (d.hold.length + ys.length) ≤ 1073741824) (hN : d.nb + (d.hold.length + ys.length) ≤ 16777216) (hl4 : d.hold.length + ys.length ≤ 4194303) :
    Calls Tryz.prog 7 #[scrV d gv hv bv, yv] w fun e w' => ∃ gv' rv' hv' bv', e = .returned (scrV (d.feed rowT ys) gv' hv' bv') ∧ OwnFS w' w.heap.size (d.feed rowT ys) gv' rv' hv' bv' ∧ Ext w w' := by
  obtain ⟨Fin, hFin⟩ : ∃ x, x = d.feed rowT ys := ⟨_, rfl⟩
  rw [← hFin]
  have HFin := hide hFin
  obtain ⟨i0, hi0, hz0, hz1, hz2⟩ := info_parts infoByteA
  have HK := hide hok
  have HWT := hide hwt
  have HBX := hide hbx
  have HBY := hide hby
  clear hFin hwt hbx hby
  obtain ⟨ya, yc, hyv, _, _⟩ := id hy
  subst hyv
  obtain ⟨ga, gc, ha, hc, ba, bc, e1, e2, e3⟩ := h.forms
  subst e1
  subst e2
  subst e3
  have HH := hide h
  have HF := hide hF
  have HY := hide hy
  have hb0 := sp_alloc w d (.slice ga d.R gc) (.slice ha d.hold.length hc) (.slice ba d.nb bc)
  obtain ⟨V, hV⟩ : ∃ V, V = (w.alloc (.cells #[.int .i64 d.cols, .int .i64 d.rows, .slice ga d.R gc, .int .i64 d.row, .int .i64 d.col, .bool d.late, .slice ha d.hold.length hc, .slice ba d.nb bc] 26)).alloc (.cells #[.int .i64 0, .int .i64 0, .slice none 0 0, .int .i64 0, .int .i64 0, .bool false, .slice none 0 0, .slice none 0 0] 26) := ⟨_, rfl⟩
  rw [← hV] at hb0
  have zV : V.heap.size = w.heap.size + 2 := by rw [hV]; simp
  have HVV := hide hV
  have HB := hide hb0
  have HOk := hide (specScreenOk_any d _ _ _ true (by simp [hok]) V (h.ext hb0.ext) hF)
  unfold scrV at HOk
  clear h hF hy hV hb0
  unfold scrV
  go_enter Tryz.func7, Tryz.ntmps7
  go_wp2_with fail
  rw [← unhide HVV]
  clear HVV
  refine (unhide HOk).mono ?_
  rintro e w1 ⟨rfl, F1⟩
  have E1 := (unhide HB).ext.trans F1
  have HC := hide (l2Copy_any d _ _ _ w1 ((unhide HH).ext E1) (unhide HF))
  unfold scrV at HC
  have HB0 := hide (F1.kept (unhide HB).s)
  have HBZ := hide (F1.kept (unhide HB).z)
  have z1 := F1.size
  have HE1 := hide E1
  clear HOk F1 E1 HB
  go_wp2_with (refine wpList_load_blk rfl 26 _ rfl w.heap.size rfl _ _ _ _ (unhide HB0) Tryz.underlying26 rfl infoScrN ?_)
  refine (unhide HC).mono ?_
  rintro e w2 ⟨gv', rv, hv', bv', rfl, ho, F2⟩
  replace HB0 := hide (F2.kept (unhide HB0))
  replace HBZ := hide (F2.kept (unhide HBZ))
  have HO := hide ho
  have HF2 := hide F2
  have z2 := F2.size
  obtain ⟨ga', gc', ha', hc', ba', bc', e1, e2, e3⟩ := ho.reads.forms
  subst e1
  subst e2
  subst e3
  clear ho F2 HC
  clear hok
  have HHo := hide (unhide HO).2.1
  go_wp2_with (first
    | (refine wpList_store_blk rfl 26 _ _ rfl rfl w.heap.size rfl _ _ _ rfl (unhide HB0) infoScrN rfl (by simp [Value.oneCell']) ?_; intro Y HX9 hX9; have hc6 := cells_of HX9 6 _ rfl; have HYB := hide HX9; have HYF := hide hX9; clear HX9 hX9)
    | (at_builtin; refine StopQ.intro ?_))
  show wpList _ _ _ _ _ _
  have hlow : w.heap.size + 1 < w1.heap.size := by omega
  obtain ⟨A, hA⟩ : ∃ A, A = d.hold ++ ys := ⟨_, rfl⟩
  have hAl : A.length = d.hold.length + ys.length := by rw [hA]; simp
  have hAB : Bytes A := by
    rw [hA]
    intro n hn
    rcases List.mem_append.1 hn with h | h
    · exact (unhide HBX) n h
    · exact (unhide HBY) n h
  have hOY := (unhide HO).fr (unhide HYF) (fun g hg e => by have := ((unhide HO).foot hg).1; omega)
  have hEY : Ext w Y := (unhide HYF).ext ((unhide HE1).trans (unhide HF2)) (fun q hq => by omega)
  have HSb := hide (Src.ints ((unhide HY).ext hEY))
  have zY := (unhide HYF).size
  refine wpList_app rfl _ _ 22 rfl w1.heap.size 5 i0 (.int .u8 0) 1 1 Tryz.underlying22 hi0 hz0 hz1 hz2 rfl (by decide) _ d.hold.length _ rfl hOY.2.1 _ ys.length (ys.map (Value.int .u8)) rfl (unhide HSb) (by unfold maxLen; omega) (by omega) (by omega) ?_
  intro v3 w3 o3 G3 _
  rw [← List.map_append, ← hA, ← hAl] at o3
  obtain ⟨a3, c3, rfl⟩ := owns_ln o3
  have X3 := Fr.grown (S := fun q => Value.ownBlock (.slice ha' d.hold.length hc') = some q) (Fr.refl _ Y) G3 (fun q hq => hq)
  have hkn := hOY.kinds
  have hG3 := hOY.1.fr X3 (fun g hg e => (hkn.1 g hg).1 e)
  have hB3 := hOY.2.2.fr X3 (fun g hg e => hkn.2 g e hg)
  have hsz := size_bd (unhide HK)
  have hRp : 0 < d.R := by have := (unhide HK).R; omega
  have hx0 : ∀ g, Value.ownBlock (.slice ha' d.hold.length hc') = some g → w1.heap.size ≤ g := fun g hg => (hOY.2.1.lt g hg).1
  have hbox : w3.heap[w.heap.size]? = some (.cells #[.int .i64 d.cols, .int .i64 d.rows, .slice ga' d.R gc', .int .i64 d.row, .int .i64 d.col, .bool d.late, .slice ha' d.hold.length hc', .slice ba' d.nb bc'] 26 (0, 0)) := X3.kept (unhide HYB) (fun e => by have := hx0 _ e; omega)
  have hz3 := X3.kept ((unhide HYF).kept (unhide HBZ) (by omega)) (fun e => by have := hx0 _ e; omega)
  have hE3 : Ext w w3 := X3.ext hEY (fun q hq => by have := hx0 q hq; have := (unhide HE1).size; omega)
  have hlowF : ∀ k, WFoot d (.slice ga' d.R gc') rv (.slice ba' d.nb bc') k → w1.heap.size ≤ k ∧ k < w3.heap.size := fun k hk => by
    rcases hk with hk | ⟨q, hq, hk⟩ | hk
    · exact hG3.1.lt k hk
    · exact (hG3.2.1 q hq).lt k hk
    · exact hB3.lt k hk
  have hS3 : ScrW w3 w.heap.size w1.heap.size (fun q => Value.ownBlock (.slice a3 A.length c3) = some q) d (.slice ga' d.R gc') rv (.slice ha' d.hold.length hc') (.slice ba' d.nb bc') := by
    refine ⟨hbox, hG3.1.toO hRp, hG3.2.1, hG3.2.2, hB3, ⟨lt_of_block hbox, fun hw => by have := (hlowF _ hw).1; omega⟩, by have := X3.size; omega, fun k hk => ⟨(o3.lt k hk).2, fun hw => ?_⟩⟩
    rcases hw with hw | ⟨q, hq, hw⟩ | hw
    · obtain ⟨_, h9, _⟩ := hG3.1
      exact owns_apart h9 o3 (by decide) hw hk
    · obtain ⟨_, h9, _⟩ := hG3.2.1 q hq
      exact owns_apart h9 o3 (by decide) hw hk
    · obtain ⟨_, h9, _⟩ := hB3
      exact owns_apart h9 o3 (by decide) hw hk
  have HI0 : Hid (FI w w3 w.heap.size w1.heap.size a3 c3 A #[.int .i64 0, .int .i64 0, .slice none 0 0, .int .i64 0, .int .i64 0, .bool false, .slice none 0 0, .slice none 0 0] Fin M d.nb 0 d (.slice ga' d.R gc') rv (.slice ha' d.hold.length hc') (.slice ba' d.nb bc')) := hide ⟨hS3, o3, hz3, hE3, unhide HK, by have := unhide HWT; exact this.mono (by omega), by omega, by rw [unhide HFin, List.drop_zero, hA]; rfl⟩
  have HAB := hide hAB
  have HAL := hide hAl
  have hA8 : A.length ≤ 4194303 := by omega
  have hMA : M + 4 * A.length ≤ 1073741824 := by omega
  have hNA : d.nb + A.length ≤ 16777216 := by omega
  clear hA hAl hAB hOY hEY HSb o3 X3 G3 hkn hG3 hB3 hx0 hbox hz3 hE3 hlowF hS3 hc6 HYB HYF HO HHo HB0 HBZ HE1 HF2 HK HWT HBX HBY HFin HH HF HY hsz hRp hl4 hM hN zY z1 z2 zV
  go_wp2_with fail
  go_loopw [6] (fun iv wr => ∃ (i : Nat) (dc : SD) (gvc : Value) (rvc : Nat → Value) (bvc : Value), i ≤ A.length ∧ iv = .int .i64 i ∧ Hid (FI w wr w.heap.size w1.heap.size a3 c3 A #[.int .i64 0, .int .i64 0, .slice none 0 0, .int .i64 0, .int .i64 0, .bool false, .slice none 0 0, .slice none 0 0] Fin M d.nb i dc gvc rvc (.slice ha' d.hold.length hc') bvc)) (fun iv _ => A.length - (intOf iv).toNat)
  case atStart => exact ⟨0, d, _, _, _, Nat.zero_le _, rfl, HI0⟩
  case round =>
    clear HI0
    obtain ⟨i, dc, gvc, rvc, bvc, hi, rfl, HI⟩ := hrel
    obtain ⟨ax, kx, cx, _, hgvc, _⟩ := id (unhide HI).scr.grid
    obtain ⟨bx, dx, hbvc⟩ : ∃ a c, bvc = .slice a dc.nb c := by obtain ⟨_, h9, _⟩ := (unhide HI).scr.back; exact owns_ln h9
    subst hgvc
    subst hbvc
    generalize hax : (some ⟨ax, kx, none⟩ : Option Addr) = ax at *
    have hc3 : A.length ≤ c3 := by
      rcases (unhide HI).all.2 with ⟨e9, e0⟩ | ⟨g, cc, cur, e0, _, _, h9, _⟩
      · omega
      · have := (Value.slice.inj e0).2.2; omega
    by_cases hlt : i < A.length
    · have hltI : (i : Int) < (A.length : Int) := by omega
      obtain ⟨g3, hg3⟩ : ∃ g, a3 = some ⟨g, 0, none⟩ := by
        obtain ⟨g, e, _⟩ := fd_from (unhide HI).all i hlt
        exact ⟨g, e⟩
      subst hg3
      have hci : (i : Int) ≤ (A.length : Int) := by omega
      have hcA : (A.length : Int) ≤ (c3 : Int) := by omega
      have hcm : ¬ c3 = i := by omega
      have HDr := hide (List.length_drop (i := i) (l := A))
      have HIA := hide (ints_of_owns (unhide HI).all)
      have HCE := hide (fun j (hj : j < A.length) => (ints_cell (unhide HI).all j hj))
      have HFT := hide ((unhide HI).fits (by omega) (by omega))
      have HSB : Hid (wr.heap[w.heap.size]? = some (.cells #[.int .i64 dc.cols, .int .i64 dc.rows, .slice ax dc.R cx, .int .i64 dc.row, .int .i64 dc.col, .bool dc.late, (.slice ha' d.hold.length hc'), .slice bx dc.nb dx] 26 (0, 0))) := hide (unhide HI).scr.box
      have ci := (unhide HCE) i hlt
      obtain ⟨x, hx⟩ : ∃ x, x = at0 A i := ⟨_, rfl⟩
      have hx2 : at0 (A.drop i) 0 = x := by rw [hx, at0_drop, Nat.add_zero]
      rw [← hx] at ci
      have HX := hide hx2
      clear hx hx2
      by_cases h27 : x = 27
      · subst h27
        obtain ⟨en, hen⟩ : ∃ en : Nat, (escR (A.drop i)).1 = (en : Int) := ⟨(escR (A.drop i)).1.toNat, by have := escR_pos (A.drop i); omega⟩
        obtain ⟨q, hq⟩ : ∃ q, (escR (A.drop i)).2 = q := ⟨_, rfl⟩
        have HEs := hide (l2Escape_any A _ i wr (unhide HIA) hlt (by omega))
        rw [hen, hq] at HEs
        have HEN := hide hen
        have HEQ := hide hq
        clear hen hq
        go_wp2_with fail
        refine (unhide HEs).mono ?_
        rintro e w4 ⟨rfl, rfl⟩
        by_cases hn0 : en = 0
        · subst hn0
          have HNn : Hid (fdStep (A.drop i) = none) := hide (step_esc0 (unhide HX) (by rw [unhide HEN]; rfl))
          have HFn := hide ((unhide HI).fin (unhide HNn))
          have HSrc : Hid (Src (w4.alloc (.cells #[] 5)) 1 (.slice (some ⟨g3, i, none⟩) (A.length - i) (c3 - i)) (A.length - i) ((A.drop i).map (Value.int .u8))) := hide (by
            obtain ⟨g, e, _, h9⟩ := fd_from (unhide HI).all i hlt
            obtain rfl : g3 = g := by simpa using congrArg (fun o : Option Addr => o.map (·.block)) e
            have h8 := Src.ints (h9.ext ((Ext.refl w4).alloc (.cells #[] 5)))
            rwa [List.length_drop] at h8)
          have HOn := hide (owns_empty w4 5 1)
          go_wp2_with (at_builtin; refine StopQ.intro ?_)
          show wpList _ _ _ _ _ _
          refine wpList_app rfl _ _ 22 rfl w4.heap.size 5 i0 (.int .u8 0) 1 1 Tryz.underlying22 hi0 hz0 hz1 hz2 rfl (by decide) _ 0 [] rfl (unhide HOn) _ (A.length - i) ((A.drop i).map (Value.int .u8)) rfl (unhide HSrc) (by unfold maxLen; omega) (by omega) (by simp) ?_
          intro v9 w9 o9 G9 _
          rw [Nat.zero_add, List.nil_append] at o9
          obtain ⟨a9, c9, rfl⟩ : ∃ a c, v9 = .slice a (A.length - i) c := by
            rcases o9.2 with ⟨e, h0⟩ | ⟨g, cap9, cur, e, _⟩
            · exact ⟨none, 0, by rw [h0]; exact e⟩
            · exact ⟨_, _, e⟩
          have X9 := Fr.grown (S := fun q => q = w4.heap.size) (Fr.refl _ (w4.alloc (.cells #[] 5))) G9 (fun q hq => by cases hq; rfl)
          have hS9 : ScrW w9 w.heap.size w1.heap.size (fun q => Value.ownBlock (.slice (some ⟨g3, 0, none⟩) A.length c3) = some q) dc (.slice ax dc.R cx) rvc (.slice ha' d.hold.length hc') (.slice bx dc.nb dx) := ((unhide HI).scr.ext ((Ext.refl w4).alloc (.cells #[] 5))).fr X9 (by have := (unhide HI).scr.below.1; omega) (fun g hg e9 => by have := ((unhide HI).scr.foot hg).2; omega)
          have hZ9 := X9.kept (((Ext.refl w4).alloc (.cells #[] 5)).kept (unhide HI).z) (by have := lt_of_block (unhide HI).z; omega)
          have hE9 := X9.ext ((unhide HI).ext.alloc (.cells #[] 5)) (fun q hq => by have := (unhide HI).ext.size; omega)
          have hO9 : w9.ownsRow w4.heap.size 5 1 (.slice a9 (A.length - i) c9) (A.drop i).length ((A.drop i).map (Value.int .u8)) := by
            rw [List.length_drop]; exact o9
          have hW0 := (unhide HI).scr.below.1
          have hW1 := lt_of_block (unhide HI).z
          have m6 : w9.cell? ⟨w.heap.size, 6, none⟩ = some (.slice ha' d.hold.length hc') := cells_of hS9.box 6 _ rfl
          have m6f : w9.frozen? ⟨w.heap.size, 6, none⟩ = false := Lib.frozen_of_heap hS9.box 6
          have fU : Fr (fun q => q = w.heap.size) w9 (w9.setCell ⟨w.heap.size, 6, none⟩ (.slice a9 (A.length - i) c9)) := Fr.setCell (S := fun q => q = w.heap.size) (Fr.refl _ _) (a := ⟨w.heap.size, 6, none⟩) rfl _
          have HQB : Hid ((w9.setCell ⟨w.heap.size, 6, none⟩ (.slice a9 (A.length - i) c9)).heap[w.heap.size]? = some (.cells #[.int .i64 dc.cols, .int .i64 dc.rows, .slice ax dc.R cx, .int .i64 dc.row, .int .i64 dc.col, .bool dc.late, .slice a9 (A.length - i) c9, .slice bx dc.nb dx] 26 (0, 0))) := hide (set_blk2 hS9.box rfl)
          have HQZ := hide (fU.kept hZ9 (by omega))
          have HVx : Hid (ScrV (w9.setCell ⟨w.heap.size, 6, none⟩ (.slice a9 (A.length - i) c9)) w1.heap.size (fun q => Value.ownBlock (.slice (some ⟨g3, 0, none⟩) A.length c3) = some q) dc (.slice ax dc.R cx) rvc (.slice bx dc.nb dx)) := hide (hS9.toV.fr fU (fun g hg e => hS9.below.2 (e ▸ hg)))
          have HOx := hide (fU.owns hO9 (fun g hg e => by have := (hO9.lt g hg).1; omega))
          have HEx := hide (fU.ext hE9 (fun q hq => by omega))
          clear o9 G9 X9 HOn hS9 hZ9 hE9 hO9 fU
          go_wp2_with (first
            | (refine wpList_load_blk rfl 26 _ rfl w.heap.size rfl _ _ _ _ (unhide HQB) Tryz.underlying26 rfl infoScrN ?_)
            | (refine wpList_store_blk rfl 26 _ _ rfl rfl (w.heap.size + 1) rfl _ _ _ rfl (unhide HQZ) infoScrN rfl (by simp [Value.oneCell']) ?_; intro X HX9 hX9; have HXB := hide HX9; have HXF := hide hX9; clear HX9 hX9))
          have v0 := cells_of (unhide HXB) 0 _ rfl
          have v1 := cells_of (unhide HXB) 1 _ rfl
          have v2 := cells_of (unhide HXB) 2 _ rfl
          have v3 := cells_of (unhide HXB) 3 _ rfl
          have v4 := cells_of (unhide HXB) 4 _ rfl
          have v5 := cells_of (unhide HXB) 5 _ rfl
          have v6 := cells_of (unhide HXB) 6 _ rfl
          have v7 := cells_of (unhide HXB) 7 _ rfl
          have hV9 := (unhide HVx).fr (unhide HXF) (fun g hg e => by have := ((unhide HVx).foot hg).1; omega)
          have hO8 := (unhide HXF).owns (unhide HOx) (fun g hg e => by have := ((unhide HOx).lt g hg).1; omega)
          have hE8 := (unhide HXF).ext (unhide HEx) (fun q hq => by omega)
          exact bodyPost_ret (v := .agg #[.int .i64 dc.cols, .int .i64 dc.rows, .slice ax dc.R cx, .int .i64 dc.row, .int .i64 dc.col, .bool dc.late, .slice a9 (A.length - i) c9, .slice bx dc.nb dx]) (by simp [results, Tryz.results7, go_sem, v0, v1, v2, v3, v4, v5, v6, v7]) rfl ⟨.slice ax dc.R cx, rvc, .slice a9 (A.length - i) c9, .slice bx dc.nb dx, by rw [unhide HFn], by rw [unhide HFn]; exact ⟨⟨hV9.grid.mono (by omega), fun q hq => (hV9.row q hq).mono (by omega), hV9.apart⟩, owns_mono hO8 (by omega), hV9.back.mono (by omega)⟩, hE8⟩
        · have hnb : ((en : Int) == 0) = false := by simp; omega
          cases q with
          | false =>
            have hst := step_escN (unhide HX) (by rw [unhide HEN]; omega) (unhide HEQ)
            rw [unhide HEN, Int.toNat_natCast] at hst
            have hme := fdStep_n _ _ _ hst
            rw [unhide HDr] at hme
            have HIn := hide ((unhide HI).step hst (ks := []) (unhide HI).scr (Fr.refl _ _) hM2 hlow (Nat.le_refl _))
            have hwn : IntKind.i64.wrap ((i : Int) + (en : Int)) = ((i + en : Nat) : Int) := by rw [IntKind.wrap_i64]; omega
            go_wp2
            go_roundw
            case rel => exact ⟨i + en, _, _, _, _, by omega, by go_num, HIn⟩
            case measure => simp [intOf]; omega
          | true =>
            obtain ⟨n, e1, en2, hn30, hln, hl64, hl126, hst⟩ := step_escQ (unhide HX) (unhide HEQ)
            rw [unhide HEN] at e1
            obtain rfl : en = n + 3 := by omega
            rw [unhide HDr] at hln
            have hwn : IntKind.i64.wrap ((i : Int) + ((n : Int) + 3)) = (i : Int) + (n : Int) + 3 := by rw [IntKind.wrap_i64] <;> omega
            have hwn1 : IntKind.i64.wrap ((i : Int) + (n : Int) + 3 - 1) = (i : Int) + (n : Int) + 2 := by rw [IntKind.wrap_i64] <;> omega
            have hwi2 : IntKind.i64.wrap ((i : Int) + 2) = (i : Int) + 2 := by rw [IntKind.wrap_i64] <;> omega
            have e9 : at0 (A.drop i) (2 + n) = at0 A (i + n + 2) := by rw [at0_drop]; congr 1; omega
            have cl := (unhide HCE) (i + n + 2) (by omega)
            rw [← e9] at cl
            obtain ⟨last, hla⟩ : ∃ x, x = at0 (A.drop i) (2 + n) := ⟨_, rfl⟩
            rw [← hla] at cl hst hl64 hl126
            obtain ⟨ds, hds⟩ : ∃ x, x = ((A.drop i).drop 2).take n := ⟨_, rfl⟩
            rw [← hds] at hst
            have hdl : ds.length = n := by rw [hds, List.length_take, List.length_drop, unhide HDr]; omega
            have hdb : ∀ b ∈ ds, 48 ≤ b ∧ b ≤ 63 := by rw [hds, en2]; exact numR_each _
            have hNu := hide (fun W (hW9 : Ext w4 W) => l2Number_any W (.slice (some ⟨g3, i + 2, none⟩) n (c3 - (i + 2))) ds (by
              obtain ⟨ao9, cap9, e8, _, h8⟩ := (unhide HIA).ext hW9
              obtain ⟨b9, o9, e7, h7⟩ := h8 (by omega)
              have e10 := (Value.slice.inj e8).1
              rw [e7] at e10
              obtain ⟨rfl, rfl⟩ : g3 = b9 ∧ 0 = o9 := by simpa using e10
              refine ⟨_, _, by rw [hdl], by rw [hdl]; omega, fun hp => ⟨g3, i + 2, rfl, fun j hj => ?_⟩⟩
              rw [hdl] at hj
              have h6 := h7 (i + 2 + j) (by omega)
              rw [Nat.zero_add] at h6
              rw [h6, hds, fd_take _ _ _ hj, at0_drop, at0_drop]
              congr 3
              omega) hdb (by rw [hdl]; omega))
            obtain ⟨nm, hnm⟩ : ∃ x, x = numS ds := ⟨_, rfl⟩
            have hnle : nm ≤ 100000 := by rw [hnm]; exact numS_top ds (fun b hb => (hdb b hb).2)
            rw [← hnm] at hNu
            have HSq := hide (fun W (hW9 : Ext w4 W) => l2Seq_any W ((unhide HI).scr.toV.ext hW9) d.hold.length hc' ha' rfl (unhide HI).ok nm last hnle)
            have HD2 : Hid (dc.sq nm last = dc.acts rowT [.oby ds last]) := hide (by rw [hnm]; rfl)
            rw [unhide HD2] at HSq
            have HST := hide hst
            unfold scrV at HSq
            clear hnm hds hla hdb hst HIA HCE HEN HEQ HX HD2 hax e9 en2 e1
            have HGL := hide (((unhide HI).all.lt g3 rfl).2)
            have HGB := hide (show w.heap.size < g3 from by have := ((unhide HI).all.lt g3 rfl).1; have := hlow; omega)
            have hs1 : (i : Int) + 2 ≤ (i : Int) + (n : Int) + 2 := by omega
            have hs2 : (i : Int) + (n : Int) + 2 ≤ (c3 : Int) := by omega
            have hs3 : (0 : Int) ≤ (i : Int) + 2 := by omega
            have hs4 : ((i : Int) + 2).toNat = i + 2 := by omega
            have hs5 : ((i : Int) + (n : Int) + 2).toNat = i + n + 2 := by omega
            have hs6 : (i : Int) + (n : Int) + 2 < (A.length : Int) := by omega
            have hs7 : (0 : Int) ≤ (i : Int) + (n : Int) + 2 := by omega
            have hs8 : i + n + 2 - (i + 2) = n := by omega
            have hs9 : ¬ c3 = i + 2 := by omega
            have hs0 : ¬ c3 - (i + 2) = 0 := by omega
            go_wp2_with fail
            refine wp_region_held_drew (S := fun W => W.cell? ⟨g3, i + n + 2, none⟩ = some (.int .u8 last)) (by kernel_rfl) cl (fun hHeld => ?_)
            refine wpAnyH_take (i := 1) (v := ?_) rfl (by kernel_rfl) (by kernel_rfl) (by kernel_rfl) (fun _ _ _ h => h) (Or.inl ⟨by rfl, ?_⟩) (by assumption) ?_
            rotate_left
            · intro w' hSw; go_simp <;> with_reducible rfl
            simp only [Act.put, qA, qB, qC, qD, qE, qF]
            refine wpAnyH_take (i := 2) (v := ?_) rfl (by kernel_rfl) (by kernel_rfl) (by kernel_rfl) (fun _ _ _ h => h) (Or.inl ⟨by rfl, ?_⟩) (by assumption) ?_
            rotate_left
            · intro w' hSw; go_simp <;> with_reducible rfl
            simp only [Act.put, qA, qB, qC, qD, qE, qF]
            refine wpAnyH_take (i := 3) (v := ?_) rfl (by kernel_rfl) (by kernel_rfl) (by kernel_rfl) (fun _ _ _ h => h) (Or.inl ⟨by rfl, ?_⟩) (by assumption) ?_
            rotate_left
            · intro w' hSw; go_simp <;> with_reducible rfl
            simp only [Act.put, qA, qB, qC, qD, qE, qF]
            refine wpAnyH_take (i := 4) (v := ?_) rfl (by kernel_rfl) (by kernel_rfl) (by kernel_rfl) (fun _ _ _ h => h) (Or.inl ⟨by rfl, ?_⟩) (by assumption) ?_
            rotate_left
            · intro w' hSw; go_simp <;> with_reducible rfl
            simp only [Act.put, qA, qB, qC, qD, qE, qF]
            refine wpAnyH_take (i := 5) (v := ?_) rfl (by kernel_rfl) (by kernel_rfl) (by kernel_rfl) (fun _ _ _ h => h) (Or.inl ⟨by rfl, ?_⟩) (by assumption) ?_
            rotate_left
            · intro w' hSw; go_simp <;> with_reducible rfl
            simp only [Act.put, qA, qB, qC, qD, qE, qF]
            refine wpAnyH_take (i := 6) (v := ?_) rfl (by kernel_rfl) (by kernel_rfl) (by kernel_rfl) (fun _ _ _ h => h) (Or.inl ⟨by rfl, ?_⟩) (by assumption) ?_
            rotate_left
            · intro w' hSw; go_simp <;> with_reducible rfl
            simp only [Act.put, qA, qB, qC, qD, qE, qF]
            refine wpAnyH_take (i := 7) (v := ?_) rfl (by kernel_rfl) (by kernel_rfl) (by kernel_rfl) (fun _ _ _ h => h) (Or.inl ⟨by rfl, ?_⟩) (by assumption) ?_
            rotate_left
            · intro w' hSw; go_simp <;> with_reducible rfl
            simp only [Act.put, qA, qB, qC, qD, qE, qF]
            refine wpAnyH_take (i := 8) (v := .slice (some ⟨g3, i + 2, none⟩) n (c3 - (i + 2))) rfl (by kernel_rfl) (by kernel_rfl) (by kernel_rfl) (fun _ _ _ h => h) (Or.inl ⟨by rfl, ?_⟩) (by assumption) ?_
            · intro w' hSw; go_simp
            simp only [Act.put, qA, qB, qC, qD, qE, qF]
            refine wpAnyH_take (i := 10) (v := ?_) rfl (by kernel_rfl) (by kernel_rfl) (by kernel_rfl) (fun _ _ _ h => h) (Or.inl ⟨by rfl, ?_⟩) (by assumption) ?_
            rotate_left
            · intro w' hSw; go_simp <;> with_reducible rfl
            simp only [Act.put, qA, qB, qC, qD, qE, qF]
            refine wpAnyH_take (i := 11) (v := ?_) rfl (by kernel_rfl) (by kernel_rfl) (by kernel_rfl) (fun _ _ _ h => h) (Or.inl ⟨by rfl, ?_⟩) (by assumption) ?_
            rotate_left
            · intro w' hSw; go_simp <;> with_reducible rfl
            simp only [Act.put, qA, qB, qC, qD, qE, qF]
            refine wpAnyH_take (i := 12) (v := ?_) rfl (by kernel_rfl) (by kernel_rfl) (by kernel_rfl) (fun _ _ _ h => h) (Or.inl ⟨by rfl, ?_⟩) (by assumption) ?_
            rotate_left
            · intro w' hSw; go_simp <;> with_reducible rfl
            simp only [Act.put, qA, qB, qC, qD, qE, qF]
            refine wpAnyH_take (i := 13) (v := ?_) rfl (by kernel_rfl) (by kernel_rfl) (by kernel_rfl) (fun _ _ _ h => h) (Or.inl ⟨by rfl, ?_⟩) (by assumption) ?_
            rotate_left
            · intro w' hSw; go_simp <;> with_reducible rfl
            simp only [Act.put, qA, qB, qC, qD, qE, qF]
            refine wpAnyH_take (i := 14) (v := ?_) rfl (by kernel_rfl) (by kernel_rfl) (by kernel_rfl) (fun _ _ _ h => h) (Or.inl ⟨by rfl, ?_⟩) (by assumption) ?_
            rotate_left
            · intro w' hSw; go_simp <;> with_reducible rfl
            simp only [Act.put, qA, qB, qC, qD, qE, qF]
            refine wpAnyH_take (i := 15) (v := ?_) rfl (by kernel_rfl) (by kernel_rfl) (by kernel_rfl) (fun _ _ _ h => h) (Or.inl ⟨by rfl, ?_⟩) (by assumption) ?_
            rotate_left
            · intro w' hSw; go_simp <;> with_reducible rfl
            simp only [Act.put, qA, qB, qC, qD, qE, qF]
            refine wpAnyH_take (i := 16) (v := ?_) rfl (by kernel_rfl) (by kernel_rfl) (by kernel_rfl) (fun _ _ _ h => h) (Or.inl ⟨by rfl, ?_⟩) (by assumption) ?_
            rotate_left
            · intro w' hSw; go_simp <;> with_reducible rfl
            simp only [Act.put, qA, qB, qC, qD, qE, qF]
            have G := hide ((Ext.refl w4).drew)
            generalize w4.drew = Wr0 at *
            refine wpAnyH_ready (rs := [0, 9]) (by kernel_rfl) (by simp) ?_
            refine AllReadyH.cons rfl (fun K hK => ?_) (AllReadyH.cons rfl (fun K hK => ?_) AllReadyH.nil)
            · refine step_load_blk rfl 26 _ rfl w.heap.size rfl _ _ _ _ ((unhide G).kept (unhide HSB)) Tryz.underlying26 rfl infoScrN ?_
              refine hK.out _ _ (by assumption) (fun hHeld => ?_)
              clear hK K
              simp only [Act.put, qA, qB, qC, qD, qE, qF]
              refine wpAnyH_ready (rs := [9]) (by kernel_rfl) (by simp) ?_
              refine AllReadyH.cons rfl (fun K hK => ?_) AllReadyH.nil
              go_simp
              refine ((unhide hNu) _ (unhide G)).mono ?_
              rintro e w8 ⟨rfl, rfl⟩
              refine hK.out _ _ (by assumption) (fun hHeld => ?_)
              clear hK K
              refine wpAnyH_ready (rs := [17]) (by kernel_rfl) (by simp) ?_
              refine AllReadyH.cons rfl (fun K hK => ?_) AllReadyH.nil
              go_simp
              refine ((unhide HSq) _ (unhide G)).mono ?_
              rintro e w5 ⟨gv5, rv5, bv5, rfl, hV5, f5⟩
              obtain ⟨ax5, kx5, cx5, _, hgv5, _⟩ := id hV5.grid
              obtain ⟨bx5, dx5, hbv5⟩ : ∃ a c, bv5 = .slice a (dc.acts rowT [.oby ds last]).nb c := by obtain ⟨_, h9, _⟩ := hV5.back; exact owns_ln h9
              subst hgv5
              subst hbv5
              replace f5 : FrV w1.heap.size (fun q => Value.ownBlock (.slice (some ⟨g3, 0, none⟩) A.length c3) = some q) w4 w5 := Fr.tr (Fr.of_ext (unhide G)) f5
              have HB5 := hide (f5.kept (unhide HI).scr.box (by have := hlow; omega))
              have cl5 : w5.cell? ⟨g3, i + n + 2, none⟩ = some (.int .u8 last) := (World.cell?_of_block (a := ⟨g3, i + n + 2, none⟩) (f5.block g3 (unhide HGL) (fun e => e.2 rfl))).trans cl
              refine hK.out _ _ cl5 (fun hHeld => ?_)
              clear hK K
              unfold scrV
              refine wpAnyH_ready (rs := [18]) (by kernel_rfl) (by simp) ?_
              refine AllReadyH.cons rfl (fun K hK => ?_) AllReadyH.nil
              refine wp_store_blk 26 _ _ rfl rfl w.heap.size rfl _ _ _ rfl (unhide HB5) infoScrN rfl (by simp [Value.oneCell']) ?_
              intro Y hYB hYF
              have hgl5 : g3 < w5.heap.size := Nat.lt_of_lt_of_le (unhide HGL) f5.size
              have clY : Y.cell? ⟨g3, i + n + 2, none⟩ = some (.int .u8 last) := (World.cell?_of_block (a := ⟨g3, i + n + 2, none⟩) (hYF.block g3 hgl5 (by have := unhide HGB; omega))).trans cl5
              refine hK.out _ _ clY (fun hHeld => ?_)
              have hSY : ScrW Y w.heap.size w1.heap.size (fun q => Value.ownBlock (.slice (some ⟨g3, 0, none⟩) A.length c3) = some q) (dc.acts rowT [.oby ds last]) (.slice (some ⟨ax5, kx5, none⟩) (dc.acts rowT [.oby ds last]).R cx5) rv5 (.slice ha' d.hold.length hc') (.slice bx5 (dc.acts rowT [.oby ds last]).nb dx5) := (hV5.fr hYF (fun g hg e => by have := (hV5.foot hg).1; have := hlow; omega)).toW hYB (fun hw => by have := (hV5.foot hw).1; have := hlow; omega)
              have hFY : FrW w.heap.size w1.heap.size (fun q => Value.ownBlock (.slice (some ⟨g3, 0, none⟩) A.length c3) = some q) w4 Y := Fr.tr (f5.mono (fun q hq => .inr hq)) (hYF.mono (fun q hq => .inl hq))
              have HIn := hide ((unhide HI).step (unhide HST) hSY hFY hM2 hlow (Nat.le_refl _))
              clear hK K hYB hYF hSY hFY cl5 clY hV5 f5 HB5 hHeld hgl5
              refine wpAnyH_done (by kernel_rfl) ?_ _
              go_wp2
              go_roundw
              case rel => exact ⟨i + (n + 3), _, _, _, _, by omega, by go_num, HIn⟩
              case measure => simp [intOf]; omega
            · go_simp
              refine ((unhide hNu) _ (unhide G)).mono ?_
              rintro e w8 ⟨rfl, rfl⟩
              refine hK.out _ _ (by assumption) (fun hHeld => ?_)
              clear hK K
              refine wpAnyH_ready (rs := [0]) (by kernel_rfl) (by simp) ?_
              refine AllReadyH.cons rfl (fun K hK => ?_) AllReadyH.nil
              refine step_load_blk rfl 26 _ rfl w.heap.size rfl _ _ _ _ ((unhide G).kept (unhide HSB)) Tryz.underlying26 rfl infoScrN ?_
              refine hK.out _ _ (by assumption) (fun hHeld => ?_)
              clear hK K
              simp only [Act.put, qA, qB, qC, qD, qE, qF]
              refine wpAnyH_ready (rs := [17]) (by kernel_rfl) (by simp) ?_
              refine AllReadyH.cons rfl (fun K hK => ?_) AllReadyH.nil
              go_simp
              refine ((unhide HSq) _ (unhide G)).mono ?_
              rintro e w5 ⟨gv5, rv5, bv5, rfl, hV5, f5⟩
              obtain ⟨ax5, kx5, cx5, _, hgv5, _⟩ := id hV5.grid
              obtain ⟨bx5, dx5, hbv5⟩ : ∃ a c, bv5 = .slice a (dc.acts rowT [.oby ds last]).nb c := by obtain ⟨_, h9, _⟩ := hV5.back; exact owns_ln h9
              subst hgv5
              subst hbv5
              replace f5 : FrV w1.heap.size (fun q => Value.ownBlock (.slice (some ⟨g3, 0, none⟩) A.length c3) = some q) w4 w5 := Fr.tr (Fr.of_ext (unhide G)) f5
              have HB5 := hide (f5.kept (unhide HI).scr.box (by have := hlow; omega))
              have cl5 : w5.cell? ⟨g3, i + n + 2, none⟩ = some (.int .u8 last) := (World.cell?_of_block (a := ⟨g3, i + n + 2, none⟩) (f5.block g3 (unhide HGL) (fun e => e.2 rfl))).trans cl
              refine hK.out _ _ cl5 (fun hHeld => ?_)
              clear hK K
              unfold scrV
              refine wpAnyH_ready (rs := [18]) (by kernel_rfl) (by simp) ?_
              refine AllReadyH.cons rfl (fun K hK => ?_) AllReadyH.nil
              refine wp_store_blk 26 _ _ rfl rfl w.heap.size rfl _ _ _ rfl (unhide HB5) infoScrN rfl (by simp [Value.oneCell']) ?_
              intro Y hYB hYF
              have hgl5 : g3 < w5.heap.size := Nat.lt_of_lt_of_le (unhide HGL) f5.size
              have clY : Y.cell? ⟨g3, i + n + 2, none⟩ = some (.int .u8 last) := (World.cell?_of_block (a := ⟨g3, i + n + 2, none⟩) (hYF.block g3 hgl5 (by have := unhide HGB; omega))).trans cl5
              refine hK.out _ _ clY (fun hHeld => ?_)
              have hSY : ScrW Y w.heap.size w1.heap.size (fun q => Value.ownBlock (.slice (some ⟨g3, 0, none⟩) A.length c3) = some q) (dc.acts rowT [.oby ds last]) (.slice (some ⟨ax5, kx5, none⟩) (dc.acts rowT [.oby ds last]).R cx5) rv5 (.slice ha' d.hold.length hc') (.slice bx5 (dc.acts rowT [.oby ds last]).nb dx5) := (hV5.fr hYF (fun g hg e => by have := (hV5.foot hg).1; have := hlow; omega)).toW hYB (fun hw => by have := (hV5.foot hw).1; have := hlow; omega)
              have hFY : FrW w.heap.size w1.heap.size (fun q => Value.ownBlock (.slice (some ⟨g3, 0, none⟩) A.length c3) = some q) w4 Y := Fr.tr (f5.mono (fun q hq => .inr hq)) (hYF.mono (fun q hq => .inl hq))
              have HIn := hide ((unhide HI).step (unhide HST) hSY hFY hM2 hlow (Nat.le_refl _))
              clear hK K hYB hYF hSY hFY cl5 clY hV5 f5 HB5 hHeld hgl5
              refine wpAnyH_done (by kernel_rfl) ?_ _
              go_wp2
              go_roundw
              case rel => exact ⟨i + (n + 3), _, _, _, _, by omega, by go_num, HIn⟩
              case measure => simp [intOf]; omega
      · have b27 : (x == 27) = false := by simpa using h27
        by_cases h13 : x = 13
        · subst h13
          have hst := step_13 (s := A.drop i) (by rw [unhide HDr]; omega) (unhide HX)
          have c4 : wr.cell? ⟨w.heap.size, 4, none⟩ = some (.int .i64 dc.col) := cells_of (unhide HSB) 4 _ rfl
          have c4f : wr.frozen? ⟨w.heap.size, 4, none⟩ = false := Lib.frozen_of_heap (unhide HSB) 4
          have c5 : wr.cell? ⟨w.heap.size, 5, none⟩ = some (.bool dc.late) := cells_of (unhide HSB) 5 _ rfl
          have c5f : wr.frozen? ⟨w.heap.size, 5, none⟩ = false := Lib.frozen_of_heap (unhide HSB) 5
          have hwn : IntKind.i64.wrap ((i : Int) + 1) = (i : Int) + 1 := by rw [IntKind.wrap_i64] <;> omega
          have f4 : Fr (fun k => k = w.heap.size) wr ((wr.setCell ⟨w.heap.size, 4, none⟩ (.int .i64 0)).setCell ⟨w.heap.size, 5, none⟩ (.bool false)) := Fr.setCell (S := fun k => k = w.heap.size) (Fr.setCell (S := fun k => k = w.heap.size) (Fr.refl _ _) (a := ⟨w.heap.size, 4, none⟩) rfl _) (a := ⟨w.heap.size, 5, none⟩) rfl _
          have hS4 := (unhide HI).scr.head f4 dc.row 0 false (set_blk2 (set_blk2 (unhide HSB) rfl) rfl)
          have HIn := hide ((unhide HI).step hst (ks := [.shw 13]) (gv' := .slice ax dc.R cx) (rv' := rvc) (bv' := .slice bx dc.nb dx) (by show ScrW _ _ _ _ (dc.shw rowT 13) _ _ _ _; unfold SD.shw; rw [if_pos rfl]; exact hS4) (f4.mono (fun q hq => .inl hq)) hM2 hlow (Nat.le_refl _))
          clear f4 hS4 hst HCE HIA HFT HSB hax
          go_wp2
          go_roundw
          case rel => exact ⟨i + 1, _, _, _, _, by omega, by go_num, HIn⟩
          case measure => simp [intOf]; omega
        · have b13 : (x == 13) = false := by simpa using h13
          by_cases h10 : x = 10
          · subst h10
            have hst := step_10 (s := A.drop i) (by rw [unhide HDr]; omega) (unhide HX)
            have hwn : IntKind.i64.wrap ((i : Int) + 1) = (i : Int) + 1 := by rw [IntKind.wrap_i64] <;> omega
            have HDn := hide (l2Down_any wr (unhide HI).scr.toV d.hold.length hc' ha' rfl (unhide HI).ok (unhide HFT).1 (unhide HFT).2)
            have HD2 : Hid (dc.down rowT = dc.acts rowT [.shw 10]) := hide (by show _ = dc.shw rowT 10; unfold SD.shw; rw [if_neg (by decide), if_pos rfl])
            rw [unhide HD2] at HDn
            have HST := hide hst
            unfold scrV at HDn
            clear hst HIA HCE HX HD2 hax HFT
            go_wp2_with (refine wpList_load_blk rfl 26 _ rfl w.heap.size rfl _ _ _ _ (unhide HSB) Tryz.underlying26 rfl infoScrN ?_)
            refine (unhide HDn).mono ?_
            rintro e w5 ⟨gv5, rv5, bv5, rfl, hV5, f5⟩
            obtain ⟨ax5, kx5, cx5, _, hgv5, _⟩ := id hV5.grid
            obtain ⟨bx5, dx5, hbv5⟩ : ∃ a c, bv5 = .slice a (dc.acts rowT [.shw 10]).nb c := by obtain ⟨_, h9, _⟩ := hV5.back; exact owns_ln h9
            subst hgv5
            subst hbv5
            have HB5 := hide (f5.kept (unhide HI).scr.box (by have := hlow; omega))
            have HV5 := hide hV5
            have HF5 := hide f5
            clear hV5 f5 HDn
            unfold scrV
            go_wp2_with (refine wpList_store_blk rfl 26 _ _ rfl rfl w.heap.size rfl _ _ _ rfl (unhide HB5) infoScrN rfl (by simp [Value.oneCell']) ?_; intro Y HX9 hX9; have HYB := hide HX9; have HYF := hide hX9; clear HX9 hX9)
            have hSY : ScrW Y w.heap.size w1.heap.size (fun q => Value.ownBlock (.slice (some ⟨g3, 0, none⟩) A.length c3) = some q) (dc.acts rowT [.shw 10]) (.slice (some ⟨ax5, kx5, none⟩) (dc.acts rowT [.shw 10]).R cx5) rv5 (.slice ha' d.hold.length hc') (.slice bx5 (dc.acts rowT [.shw 10]).nb dx5) := ((unhide HV5).fr (unhide HYF) (fun g hg e => by have := ((unhide HV5).foot hg).1; have := hlow; omega)).toW (unhide HYB) (fun hw => by have := ((unhide HV5).foot hw).1; have := hlow; omega)
            have hFY : FrW w.heap.size w1.heap.size (fun q => Value.ownBlock (.slice (some ⟨g3, 0, none⟩) A.length c3) = some q) wr Y := Fr.tr ((unhide HF5).mono (fun q hq => .inr hq)) ((unhide HYF).mono (fun q hq => .inl hq))
            have HIn := hide ((unhide HI).step (unhide HST) hSY hFY hM2 hlow (Nat.le_refl _))
            clear hSY hFY
            go_roundw
            case rel => exact ⟨i + 1, _, _, _, _, by omega, by go_num, HIn⟩
            case measure => simp [intOf]; omega
          · have b10 : (x == 10) = false := by simpa using h10
            have HBg := hide (l1Begun_any A (unhide HAB) _ i wr (unhide HIA) hlt (by omega))
            obtain ⟨bg, hbg⟩ : ∃ x, x = begB (A.drop i) := ⟨_, rfl⟩
            rw [← hbg] at HBg
            have HX2 : Hid (at0 (A.drop i) 0 ≠ 27 ∧ at0 (A.drop i) 0 ≠ 13 ∧ at0 (A.drop i) 0 ≠ 10) := hide (by rw [unhide HX]; exact ⟨h27, h13, h10⟩)
            have HBG := hide hbg
            clear hbg HX
            go_wp2_with fail
            refine (unhide HBg).mono ?_
            rintro e w4 ⟨rfl, E4⟩
            have HI4 := hide ((unhide HI).ext4 E4)
            have HSB4 := hide (E4.kept (unhide HSB))
            have HIA4 := hide ((unhide HIA).ext E4)
            clear E4 HBg HI HSB HIA HCE
            cases bg with
            | true =>
              have HNn : Hid (fdStep (A.drop i) = none) := hide (step_begun (unhide HX2).1 (unhide HBG).symm)
              have HFn := hide ((unhide HI4).fin (unhide HNn))
              have HSrc : Hid (Src (w4.alloc (.cells #[] 5)) 1 (.slice (some ⟨g3, i, none⟩) (A.length - i) (c3 - i)) (A.length - i) ((A.drop i).map (Value.int .u8))) := hide (by
                obtain ⟨g, e, _, h9⟩ := fd_from (unhide HI4).all i hlt
                obtain rfl : g3 = g := by simpa using congrArg (fun o : Option Addr => o.map (·.block)) e
                have h8 := Src.ints (h9.ext ((Ext.refl w4).alloc (.cells #[] 5)))
                rwa [List.length_drop] at h8)
              have HOn := hide (owns_empty w4 5 1)
              go_wp2_with (at_builtin; refine StopQ.intro ?_)
              show wpList _ _ _ _ _ _
              refine wpList_app rfl _ _ 22 rfl w4.heap.size 5 i0 (.int .u8 0) 1 1 Tryz.underlying22 hi0 hz0 hz1 hz2 rfl (by decide) _ 0 [] rfl (unhide HOn) _ (A.length - i) ((A.drop i).map (Value.int .u8)) rfl (unhide HSrc) (by unfold maxLen; omega) (by omega) (by simp) ?_
              intro v9 w9 o9 G9 _
              rw [Nat.zero_add, List.nil_append] at o9
              obtain ⟨a9, c9, rfl⟩ : ∃ a c, v9 = .slice a (A.length - i) c := by
                rcases o9.2 with ⟨e, h0⟩ | ⟨g, cap9, cur, e, _⟩
                · exact ⟨none, 0, by rw [h0]; exact e⟩
                · exact ⟨_, _, e⟩
              have X9 := Fr.grown (S := fun q => q = w4.heap.size) (Fr.refl _ (w4.alloc (.cells #[] 5))) G9 (fun q hq => by cases hq; rfl)
              have hS9 : ScrW w9 w.heap.size w1.heap.size (fun q => Value.ownBlock (.slice (some ⟨g3, 0, none⟩) A.length c3) = some q) dc (.slice ax dc.R cx) rvc (.slice ha' d.hold.length hc') (.slice bx dc.nb dx) := ((unhide HI4).scr.ext ((Ext.refl w4).alloc (.cells #[] 5))).fr X9 (by have := (unhide HI4).scr.below.1; omega) (fun g hg e9 => by have := ((unhide HI4).scr.foot hg).2; omega)
              have hZ9 := X9.kept (((Ext.refl w4).alloc (.cells #[] 5)).kept (unhide HI4).z) (by have := lt_of_block (unhide HI4).z; omega)
              have hE9 := X9.ext ((unhide HI4).ext.alloc (.cells #[] 5)) (fun q hq => by have := (unhide HI4).ext.size; omega)
              have hO9 : w9.ownsRow w4.heap.size 5 1 (.slice a9 (A.length - i) c9) (A.drop i).length ((A.drop i).map (Value.int .u8)) := by
                rw [List.length_drop]; exact o9
              have hW0 := (unhide HI4).scr.below.1
              have hW1 := lt_of_block (unhide HI4).z
              have m6 : w9.cell? ⟨w.heap.size, 6, none⟩ = some (.slice ha' d.hold.length hc') := cells_of hS9.box 6 _ rfl
              have m6f : w9.frozen? ⟨w.heap.size, 6, none⟩ = false := Lib.frozen_of_heap hS9.box 6
              have fU : Fr (fun q => q = w.heap.size) w9 (w9.setCell ⟨w.heap.size, 6, none⟩ (.slice a9 (A.length - i) c9)) := Fr.setCell (S := fun q => q = w.heap.size) (Fr.refl _ _) (a := ⟨w.heap.size, 6, none⟩) rfl _
              have HQB : Hid ((w9.setCell ⟨w.heap.size, 6, none⟩ (.slice a9 (A.length - i) c9)).heap[w.heap.size]? = some (.cells #[.int .i64 dc.cols, .int .i64 dc.rows, .slice ax dc.R cx, .int .i64 dc.row, .int .i64 dc.col, .bool dc.late, .slice a9 (A.length - i) c9, .slice bx dc.nb dx] 26 (0, 0))) := hide (set_blk2 hS9.box rfl)
              have HQZ := hide (fU.kept hZ9 (by omega))
              have HVx : Hid (ScrV (w9.setCell ⟨w.heap.size, 6, none⟩ (.slice a9 (A.length - i) c9)) w1.heap.size (fun q => Value.ownBlock (.slice (some ⟨g3, 0, none⟩) A.length c3) = some q) dc (.slice ax dc.R cx) rvc (.slice bx dc.nb dx)) := hide (hS9.toV.fr fU (fun g hg e => hS9.below.2 (e ▸ hg)))
              have HOx := hide (fU.owns hO9 (fun g hg e => by have := (hO9.lt g hg).1; omega))
              have HEx := hide (fU.ext hE9 (fun q hq => by omega))
              clear o9 G9 X9 HOn hS9 hZ9 hE9 hO9 fU
              go_wp2_with (first
                | (refine wpList_load_blk rfl 26 _ rfl w.heap.size rfl _ _ _ _ (unhide HQB) Tryz.underlying26 rfl infoScrN ?_)
                | (refine wpList_store_blk rfl 26 _ _ rfl rfl (w.heap.size + 1) rfl _ _ _ rfl (unhide HQZ) infoScrN rfl (by simp [Value.oneCell']) ?_; intro X HX9 hX9; have HXB := hide HX9; have HXF := hide hX9; clear HX9 hX9))
              have v0 := cells_of (unhide HXB) 0 _ rfl
              have v1 := cells_of (unhide HXB) 1 _ rfl
              have v2 := cells_of (unhide HXB) 2 _ rfl
              have v3 := cells_of (unhide HXB) 3 _ rfl
              have v4 := cells_of (unhide HXB) 4 _ rfl
              have v5 := cells_of (unhide HXB) 5 _ rfl
              have v6 := cells_of (unhide HXB) 6 _ rfl
              have v7 := cells_of (unhide HXB) 7 _ rfl
              have hV9 := (unhide HVx).fr (unhide HXF) (fun g hg e => by have := ((unhide HVx).foot hg).1; omega)
              have hO8 := (unhide HXF).owns (unhide HOx) (fun g hg e => by have := ((unhide HOx).lt g hg).1; omega)
              have hE8 := (unhide HXF).ext (unhide HEx) (fun q hq => by omega)
              exact bodyPost_ret (v := .agg #[.int .i64 dc.cols, .int .i64 dc.rows, .slice ax dc.R cx, .int .i64 dc.row, .int .i64 dc.col, .bool dc.late, .slice a9 (A.length - i) c9, .slice bx dc.nb dx]) (by simp [results, Tryz.results7, go_sem, v0, v1, v2, v3, v4, v5, v6, v7]) rfl ⟨.slice ax dc.R cx, rvc, .slice a9 (A.length - i) c9, .slice bx dc.nb dx, by rw [unhide HFn], by rw [unhide HFn]; exact ⟨⟨hV9.grid.mono (by omega), fun q hq => (hV9.row q hq).mono (by omega), hV9.apart⟩, owns_mono hO8 (by omega), hV9.back.mono (by omega)⟩, hE8⟩
            | false =>
              have hst := step_rune (s := A.drop i) (by rw [unhide HDr]; omega) (unhide HX2).1 (unhide HBG).symm
              have HRu := hide (l1Rune_any A (unhide HAB) _ i w4 (unhide HIA4) hlt (by omega))
              have hval : Utf8.valid (decL (A.drop i)).1 = true := decL_valid (fun n hn => (unhide HAB) n (List.mem_of_mem_drop hn))
              have hnn := decL_no (s := A.drop i) (unhide HX2).2.1 (unhide HX2).2.2
              have hme := fdStep_n _ _ _ hst
              rw [unhide HDr] at hme
              obtain ⟨r, m, hrm⟩ : ∃ r m, decL (A.drop i) = (r, m) := ⟨_, _, rfl⟩
              rw [hrm] at hst HRu hval hnn hme
              have hwn : IntKind.i64.wrap ((i : Int) + (m : Int)) = ((i + m : Nat) : Int) := by rw [IntKind.wrap_i64]; omega
              have HST := hide hst
              have HVL := hide hval
              have HNN := hide hnn
              clear hst hval hnn hrm HBG HX2
              go_wp2_with fail
              refine (unhide HRu).mono ?_
              rintro e w6 ⟨rfl, E6⟩
              replace HI4 := hide ((unhide HI4).ext4 E6)
              replace HSB4 := hide (E6.kept (unhide HSB4))
              have HSh := hide (l2Show_any w6 (unhide HI4).scr.toV d.hold.length hc' ha' rfl (unhide HI4).ok r (unhide HVL) (unhide HNN).1 (unhide HNN).2 (unhide HFT).1 (unhide HFT).2)
              have HD2 : Hid (dc.shw rowT r = dc.acts rowT [.shw r]) := hide rfl
              rw [unhide HD2] at HSh
              unfold scrV at HSh
              clear E6 HRu HIA4 HD2 hax HFT HVL HNN
              go_wp2_with (refine wpList_load_blk rfl 26 _ rfl w.heap.size rfl _ _ _ _ (unhide HSB4) Tryz.underlying26 rfl infoScrN ?_)
              refine (unhide HSh).mono ?_
              rintro e w5 ⟨gv5, rv5, bv5, rfl, hV5, f5⟩
              obtain ⟨ax5, kx5, cx5, _, hgv5, _⟩ := id hV5.grid
              obtain ⟨bx5, dx5, hbv5⟩ : ∃ a c, bv5 = .slice a (dc.acts rowT [.shw r]).nb c := by obtain ⟨_, h9, _⟩ := hV5.back; exact owns_ln h9
              subst hgv5
              subst hbv5
              have HB5 := hide (f5.kept (unhide HI4).scr.box (by have := hlow; omega))
              have HV5 := hide hV5
              have HF5 := hide f5
              clear hV5 f5 HSh
              unfold scrV
              go_wp2_with (refine wpList_store_blk rfl 26 _ _ rfl rfl w.heap.size rfl _ _ _ rfl (unhide HB5) infoScrN rfl (by simp [Value.oneCell']) ?_; intro Y HX9 hX9; have HYB := hide HX9; have HYF := hide hX9; clear HX9 hX9)
              have hSY : ScrW Y w.heap.size w1.heap.size (fun q => Value.ownBlock (.slice (some ⟨g3, 0, none⟩) A.length c3) = some q) (dc.acts rowT [.shw r]) (.slice (some ⟨ax5, kx5, none⟩) (dc.acts rowT [.shw r]).R cx5) rv5 (.slice ha' d.hold.length hc') (.slice bx5 (dc.acts rowT [.shw r]).nb dx5) := ((unhide HV5).fr (unhide HYF) (fun g hg e => by have := ((unhide HV5).foot hg).1; have := hlow; omega)).toW (unhide HYB) (fun hw => by have := ((unhide HV5).foot hw).1; have := hlow; omega)
              have hFY : FrW w.heap.size w1.heap.size (fun q => Value.ownBlock (.slice (some ⟨g3, 0, none⟩) A.length c3) = some q) w6 Y := Fr.tr ((unhide HF5).mono (fun q hq => .inr hq)) ((unhide HYF).mono (fun q hq => .inl hq))
              have HIn := hide ((unhide HI4).step (unhide HST) hSY hFY hM2 hlow (Nat.le_refl _))
              clear hSY hFY
              go_roundw
              case rel => exact ⟨i + m, _, _, _, _, by omega, by go_num, HIn⟩
              case measure => simp [intOf]; omega
    · obtain rfl : i = A.length := by omega
      have hni : ¬ ((A.length : Nat) : Int) < (A.length : Int) := by omega
      have HNn : Hid (fdStep (A.drop A.length) = none) := hide (by rw [List.drop_length]; rfl)
      have hci : (A.length : Int) ≤ (c3 : Int) := by omega
      by_cases hcc : c3 = A.length
      · subst hcc
        have HFn := hide ((unhide HI).fin (unhide HNn))
        have HOn := hide (owns_empty wr 5 1)
        go_wp2_with (at_builtin; refine StopQ.intro ?_)
        show wpList _ _ _ _ _ _
        refine wpList_app rfl _ _ 22 rfl wr.heap.size 5 i0 (.int .u8 0) 1 1 Tryz.underlying22 hi0 hz0 hz1 hz2 rfl (by decide) _ 0 [] rfl (unhide HOn) _ 0 [] rfl (fd_src0 _ _ _ _) (by unfold maxLen; omega) (by omega) (by simp) ?_
        intro v9 w9 o9 G9 _
        rw [Nat.zero_add, List.nil_append] at o9
        obtain ⟨a9, c9, rfl⟩ : ∃ a c, v9 = .slice a 0 c := by
          rcases o9.2 with ⟨e, h0⟩ | ⟨g, cap9, cur, e, _⟩
          · exact ⟨none, 0, by rw [h0]; exact e⟩
          · exact ⟨_, _, e⟩
        have X9 := Fr.grown (S := fun q => q = wr.heap.size) (Fr.refl _ (wr.alloc (.cells #[] 5))) G9 (fun q hq => by cases hq; rfl)
        have hS9 : ScrW w9 w.heap.size w1.heap.size (fun q => Value.ownBlock (.slice a3 A.length A.length) = some q) dc (.slice ax dc.R cx) rvc (.slice ha' d.hold.length hc') (.slice bx dc.nb dx) := ((unhide HI).scr.ext ((Ext.refl wr).alloc (.cells #[] 5))).fr X9 (by have := (unhide HI).scr.below.1; omega) (fun g hg e9 => by have := ((unhide HI).scr.foot hg).2; omega)
        have hZ9 := X9.kept (((Ext.refl wr).alloc (.cells #[] 5)).kept (unhide HI).z) (by have := lt_of_block (unhide HI).z; omega)
        have hE9 := X9.ext ((unhide HI).ext.alloc (.cells #[] 5)) (fun q hq => by have := (unhide HI).ext.size; omega)
        have hO9 : w9.ownsRow wr.heap.size 5 1 (.slice a9 0 c9) (A.drop A.length).length ((A.drop A.length).map (Value.int .u8)) := by
          rw [List.drop_length]; exact o9
        have hW0 := (unhide HI).scr.below.1
        have hW1 := lt_of_block (unhide HI).z
        have m6 : w9.cell? ⟨w.heap.size, 6, none⟩ = some (.slice ha' d.hold.length hc') := cells_of hS9.box 6 _ rfl
        have m6f : w9.frozen? ⟨w.heap.size, 6, none⟩ = false := Lib.frozen_of_heap hS9.box 6
        have fU : Fr (fun q => q = w.heap.size) w9 (w9.setCell ⟨w.heap.size, 6, none⟩ (.slice a9 0 c9)) := Fr.setCell (S := fun q => q = w.heap.size) (Fr.refl _ _) (a := ⟨w.heap.size, 6, none⟩) rfl _
        have HQB : Hid ((w9.setCell ⟨w.heap.size, 6, none⟩ (.slice a9 0 c9)).heap[w.heap.size]? = some (.cells #[.int .i64 dc.cols, .int .i64 dc.rows, .slice ax dc.R cx, .int .i64 dc.row, .int .i64 dc.col, .bool dc.late, .slice a9 0 c9, .slice bx dc.nb dx] 26 (0, 0))) := hide (set_blk2 hS9.box rfl)
        have HQZ := hide (fU.kept hZ9 (by omega))
        have HVx : Hid (ScrV (w9.setCell ⟨w.heap.size, 6, none⟩ (.slice a9 0 c9)) w1.heap.size (fun q => Value.ownBlock (.slice a3 A.length A.length) = some q) dc (.slice ax dc.R cx) rvc (.slice bx dc.nb dx)) := hide (hS9.toV.fr fU (fun g hg e => hS9.below.2 (e ▸ hg)))
        have HOx := hide (fU.owns hO9 (fun g hg e => by have := (hO9.lt g hg).1; omega))
        have HEx := hide (fU.ext hE9 (fun q hq => by omega))
        clear o9 G9 X9 HOn hS9 hZ9 hE9 hO9 fU
        go_wp2_with (first
          | (refine wpList_load_blk rfl 26 _ rfl w.heap.size rfl _ _ _ _ (unhide HQB) Tryz.underlying26 rfl infoScrN ?_)
          | (refine wpList_store_blk rfl 26 _ _ rfl rfl (w.heap.size + 1) rfl _ _ _ rfl (unhide HQZ) infoScrN rfl (by simp [Value.oneCell']) ?_; intro X HX9 hX9; have HXB := hide HX9; have HXF := hide hX9; clear HX9 hX9))
        have v0 := cells_of (unhide HXB) 0 _ rfl
        have v1 := cells_of (unhide HXB) 1 _ rfl
        have v2 := cells_of (unhide HXB) 2 _ rfl
        have v3 := cells_of (unhide HXB) 3 _ rfl
        have v4 := cells_of (unhide HXB) 4 _ rfl
        have v5 := cells_of (unhide HXB) 5 _ rfl
        have v6 := cells_of (unhide HXB) 6 _ rfl
        have v7 := cells_of (unhide HXB) 7 _ rfl
        have hV9 := (unhide HVx).fr (unhide HXF) (fun g hg e => by have := ((unhide HVx).foot hg).1; omega)
        have hO8 := (unhide HXF).owns (unhide HOx) (fun g hg e => by have := ((unhide HOx).lt g hg).1; omega)
        have hE8 := (unhide HXF).ext (unhide HEx) (fun q hq => by omega)
        exact bodyPost_ret (v := .agg #[.int .i64 dc.cols, .int .i64 dc.rows, .slice ax dc.R cx, .int .i64 dc.row, .int .i64 dc.col, .bool dc.late, .slice a9 0 c9, .slice bx dc.nb dx]) (by simp [results, Tryz.results7, go_sem, v0, v1, v2, v3, v4, v5, v6, v7]) rfl ⟨.slice ax dc.R cx, rvc, .slice a9 0 c9, .slice bx dc.nb dx, by rw [unhide HFn], by rw [unhide HFn]; exact ⟨⟨hV9.grid.mono (by omega), fun q hq => (hV9.row q hq).mono (by omega), hV9.apart⟩, owns_mono hO8 (by omega), hV9.back.mono (by omega)⟩, hE8⟩
      · have hcc2 : ¬ A.length = c3 := fun e => hcc e.symm
        rcases a3 with _ | ⟨b8, o8, s8⟩
        · exact absurd ((unhide HI).all.2) (by
            rintro (⟨e, h0⟩ | ⟨g, cc, cur, e, _⟩)
            · have := (Value.slice.inj e).2.2; have := (Value.slice.inj e).2.1; omega
            · have := (Value.slice.inj e).1; cases this)
        · have HFn := hide ((unhide HI).fin (unhide HNn))
          have HOn := hide (owns_empty wr 5 1)
          go_wp2_with (at_builtin; refine StopQ.intro ?_)
          show wpList _ _ _ _ _ _
          refine wpList_app rfl _ _ 22 rfl wr.heap.size 5 i0 (.int .u8 0) 1 1 Tryz.underlying22 hi0 hz0 hz1 hz2 rfl (by decide) _ 0 [] rfl (unhide HOn) _ 0 [] rfl (fd_src0 _ _ _ _) (by unfold maxLen; omega) (by omega) (by simp) ?_
          intro v9 w9 o9 G9 _
          rw [Nat.zero_add, List.nil_append] at o9
          obtain ⟨a9, c9, rfl⟩ : ∃ a c, v9 = .slice a 0 c := by
            rcases o9.2 with ⟨e, h0⟩ | ⟨g, cap9, cur, e, _⟩
            · exact ⟨none, 0, by rw [h0]; exact e⟩
            · exact ⟨_, _, e⟩
          have X9 := Fr.grown (S := fun q => q = wr.heap.size) (Fr.refl _ (wr.alloc (.cells #[] 5))) G9 (fun q hq => by cases hq; rfl)
          have hS9 : ScrW w9 w.heap.size w1.heap.size (fun q => Value.ownBlock (.slice (some ⟨b8, o8, s8⟩) A.length c3) = some q) dc (.slice ax dc.R cx) rvc (.slice ha' d.hold.length hc') (.slice bx dc.nb dx) := ((unhide HI).scr.ext ((Ext.refl wr).alloc (.cells #[] 5))).fr X9 (by have := (unhide HI).scr.below.1; omega) (fun g hg e9 => by have := ((unhide HI).scr.foot hg).2; omega)
          have hZ9 := X9.kept (((Ext.refl wr).alloc (.cells #[] 5)).kept (unhide HI).z) (by have := lt_of_block (unhide HI).z; omega)
          have hE9 := X9.ext ((unhide HI).ext.alloc (.cells #[] 5)) (fun q hq => by have := (unhide HI).ext.size; omega)
          have hO9 : w9.ownsRow wr.heap.size 5 1 (.slice a9 0 c9) (A.drop A.length).length ((A.drop A.length).map (Value.int .u8)) := by
            rw [List.drop_length]; exact o9
          have hW0 := (unhide HI).scr.below.1
          have hW1 := lt_of_block (unhide HI).z
          have m6 : w9.cell? ⟨w.heap.size, 6, none⟩ = some (.slice ha' d.hold.length hc') := cells_of hS9.box 6 _ rfl
          have m6f : w9.frozen? ⟨w.heap.size, 6, none⟩ = false := Lib.frozen_of_heap hS9.box 6
          have fU : Fr (fun q => q = w.heap.size) w9 (w9.setCell ⟨w.heap.size, 6, none⟩ (.slice a9 0 c9)) := Fr.setCell (S := fun q => q = w.heap.size) (Fr.refl _ _) (a := ⟨w.heap.size, 6, none⟩) rfl _
          have HQB : Hid ((w9.setCell ⟨w.heap.size, 6, none⟩ (.slice a9 0 c9)).heap[w.heap.size]? = some (.cells #[.int .i64 dc.cols, .int .i64 dc.rows, .slice ax dc.R cx, .int .i64 dc.row, .int .i64 dc.col, .bool dc.late, .slice a9 0 c9, .slice bx dc.nb dx] 26 (0, 0))) := hide (set_blk2 hS9.box rfl)
          have HQZ := hide (fU.kept hZ9 (by omega))
          have HVx : Hid (ScrV (w9.setCell ⟨w.heap.size, 6, none⟩ (.slice a9 0 c9)) w1.heap.size (fun q => Value.ownBlock (.slice (some ⟨b8, o8, s8⟩) A.length c3) = some q) dc (.slice ax dc.R cx) rvc (.slice bx dc.nb dx)) := hide (hS9.toV.fr fU (fun g hg e => hS9.below.2 (e ▸ hg)))
          have HOx := hide (fU.owns hO9 (fun g hg e => by have := (hO9.lt g hg).1; omega))
          have HEx := hide (fU.ext hE9 (fun q hq => by omega))
          clear o9 G9 X9 HOn hS9 hZ9 hE9 hO9 fU
          go_wp2_with (first
            | (refine wpList_load_blk rfl 26 _ rfl w.heap.size rfl _ _ _ _ (unhide HQB) Tryz.underlying26 rfl infoScrN ?_)
            | (refine wpList_store_blk rfl 26 _ _ rfl rfl (w.heap.size + 1) rfl _ _ _ rfl (unhide HQZ) infoScrN rfl (by simp [Value.oneCell']) ?_; intro X HX9 hX9; have HXB := hide HX9; have HXF := hide hX9; clear HX9 hX9))
          have v0 := cells_of (unhide HXB) 0 _ rfl
          have v1 := cells_of (unhide HXB) 1 _ rfl
          have v2 := cells_of (unhide HXB) 2 _ rfl
          have v3 := cells_of (unhide HXB) 3 _ rfl
          have v4 := cells_of (unhide HXB) 4 _ rfl
          have v5 := cells_of (unhide HXB) 5 _ rfl
          have v6 := cells_of (unhide HXB) 6 _ rfl
          have v7 := cells_of (unhide HXB) 7 _ rfl
          have hV9 := (unhide HVx).fr (unhide HXF) (fun g hg e => by have := ((unhide HVx).foot hg).1; omega)
          have hO8 := (unhide HXF).owns (unhide HOx) (fun g hg e => by have := ((unhide HOx).lt g hg).1; omega)
          have hE8 := (unhide HXF).ext (unhide HEx) (fun q hq => by omega)
          exact bodyPost_ret (v := .agg #[.int .i64 dc.cols, .int .i64 dc.rows, .slice ax dc.R cx, .int .i64 dc.row, .int .i64 dc.col, .bool dc.late, .slice a9 0 c9, .slice bx dc.nb dx]) (by simp [results, Tryz.results7, go_sem, v0, v1, v2, v3, v4, v5, v6, v7]) rfl ⟨.slice ax dc.R cx, rvc, .slice a9 0 c9, .slice bx dc.nb dx, by rw [unhide HFn], by rw [unhide HFn]; exact ⟨⟨hV9.grid.mono (by omega), fun q hq => (hV9.row q hq).mono (by omega), hV9.apart⟩, owns_mono hO8 (by omega), hV9.back.mono (by omega)⟩, hE8⟩
end Go.Proofs.YtinfdhbnljnifaaGreatDoor
