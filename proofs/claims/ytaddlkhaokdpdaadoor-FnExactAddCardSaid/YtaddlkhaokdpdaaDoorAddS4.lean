import Derived.Test.YtaddlkhaokdpdaaDoorAddSH
namespace Go.Proofs.YtaddlkhaokdpdaaDoor
open Go.RowKit
set_option linter.unusedSimpArgs false in
set_option maxRecDepth 10000 in
set_option maxHeartbeats 8000000 in
theorem specAdd_3 (cap : Int) (ad : Addr) (n ca : Nat) (tx : Nat → ByteArray) (text : ByteArray) (w : World) (hv : Row1At w (.slice (some ad) n ca) n (fun j => .string (tx j))) (hn : n ≤ 1048576) (hx : ∀ j, j < n → (tx j).size ≤ 1048576) (ht : text.size ≤ 1048576) (ok : Bool) (hok : ok = true ↔ AddP cap n tx text) (hsel : AddP cap n tx text ∧ n ≠ 0 ∧ (n : Int) ≠ cap) :
    Calls Tryd.prog 19 #[.agg #[.int .i64 cap, .slice (some ad) n ca], .string text] w fun e w' => ∃ v, e = .returned (.tuple #[.agg #[.int .i64 cap, v], .bool ok]) ∧ Own1 w' w.heap.size 9 v (addN ok cap n) (fun j => .string (addT ok cap n tx text j)) ∧ Ext w w' := by
  have HSEL := hide hsel
  clear hsel
  obtain ⟨ic, hic, hc0, hc1, hc2⟩ := info_parts infoStrs
  obtain ⟨bh, hbh⟩ := yes_no (HistP cap n tx)
  obtain ⟨bi, hbi⟩ := yes_no (ItemP (baL text))
  have hcH := hide (fun W (hW : Ext w W) => specHistoryOk_any cap (.slice (some ad) n ca) n tx W (hv.ext hW) hn hx bh hbh)
  have hcI := hide (fun W => l5TextOk_ba text W ht bi hbi)
  have hcC := hide (fun W (hW : Ext w W) => l5Copy_some ad n ca tx W (hv.ext hW) hn)
  have HV := hide hv
  have HH := hide hbh
  have HI := hide hbi
  have HK := hide hok
  clear hv hx hok hbh hbi
  have EU := ((Ext.refl w).alloc (.cells #[.int .i64 cap, .slice (some ad) n ca] 27)).alloc (.cells #[.int .i64 0, .slice none 0 0] 27)
  have p0 : ((w.alloc (.cells #[.int .i64 cap, .slice (some ad) n ca] 27)).alloc (.cells #[.int .i64 0, .slice none 0 0] 27)).cell? ⟨w.heap.size, 0, none⟩ = some (.int .i64 cap) := by simp [go_sem]
  have p1 : ((w.alloc (.cells #[.int .i64 cap, .slice (some ad) n ca] 27)).alloc (.cells #[.int .i64 0, .slice none 0 0] 27)).cell? ⟨w.heap.size, 1, none⟩ = some (.slice (some ad) n ca) := by simp [go_sem]
  have p2 : ((w.alloc (.cells #[.int .i64 cap, .slice (some ad) n ca] 27)).alloc (.cells #[.int .i64 0, .slice none 0 0] 27)).cell? ⟨w.heap.size + 1, 0, none⟩ = some (.int .i64 0) := by simp [go_sem]
  have p3 : ((w.alloc (.cells #[.int .i64 cap, .slice (some ad) n ca] 27)).alloc (.cells #[.int .i64 0, .slice none 0 0] 27)).cell? ⟨w.heap.size + 1, 1, none⟩ = some (.slice none 0 0) := by simp [go_sem]
  have z2 : ((w.alloc (.cells #[.int .i64 cap, .slice (some ad) n ca] 27)).alloc (.cells #[.int .i64 0, .slice none 0 0] 27)).frozen? ⟨w.heap.size + 1, 0, none⟩ = false := by simp [go_sem]
  have z3 : ((w.alloc (.cells #[.int .i64 cap, .slice (some ad) n ca] 27)).alloc (.cells #[.int .i64 0, .slice none 0 0] 27)).frozen? ⟨w.heap.size + 1, 1, none⟩ = false := by simp [go_sem]
  obtain ⟨U, hU⟩ : ∃ U, U = ((w.alloc (.cells #[.int .i64 cap, .slice (some ad) n ca] 27)).alloc (.cells #[.int .i64 0, .slice none 0 0] 27)) := ⟨_, rfl⟩
  have hz : U.heap.size = w.heap.size + 2 := by rw [hU]; simp
  rw [← hU] at EU p0 p1 p2 p3 z2 z3
  have HU := hide hU
  have FZ := hide (fun W (hW : Ext U W) => show W.frozen? ⟨w.heap.size + 1, 0, none⟩ = false ∧ W.frozen? ⟨w.heap.size + 1, 1, none⟩ = false from ⟨by rw [hW.rules.2 _ _ (by omega)]; exact z2, by rw [hW.rules.2 _ _ (by omega)]; exact z3⟩)
  clear hU z2 z3
  have s0 : U.drew.cell? ⟨w.heap.size, 0, none⟩ = some (.int .i64 cap) := p0
  go_enter Tryd.func19, Tryd.ntmps19
  go_wp2
  rw [← unhide HU]
  clear HU
  refine wp_region_held_drew (S := fun W => W.cell? ⟨w.heap.size, 0, none⟩ = some (.int .i64 cap) ∧ W.cell? ⟨w.heap.size, 1, none⟩ = some (.slice (some ad) n ca)) (by kernel_rfl) ⟨p0, p1⟩ (fun hHeld => ?_)
  refine wpAnyH_take (i := 0) (v := ?_) rfl (by kernel_rfl) (by kernel_rfl) (by kernel_rfl) (fun _ _ _ h => h) (Or.inl ⟨by rfl, ?_⟩) (by assumption) ?_
  rotate_left
  · intro w' hSw; go_simp <;> with_reducible rfl
  simp only [Act.put, q9]
  refine wpAnyH_take (i := 1) (v := ?_) rfl (by kernel_rfl) (by kernel_rfl) (by kernel_rfl) (fun _ _ _ h => h) (Or.inl ⟨by rfl, ?_⟩) (by assumption) ?_
  rotate_left
  · intro w' hSw; go_simp <;> with_reducible rfl
  simp only [Act.put, q9]
  refine wpAnyH_take (i := 2) (v := ?_) rfl (by kernel_rfl) (by kernel_rfl) (by kernel_rfl) (fun _ _ _ h => h) (Or.inl ⟨by rfl, ?_⟩) (by assumption) ?_
  rotate_left
  · intro w' hSw; go_simp <;> with_reducible rfl
  simp only [Act.put, q9]
  refine wpAnyH_take (i := 3) (v := ?_) rfl (by kernel_rfl) (by kernel_rfl) (by kernel_rfl) (fun _ _ _ h => h) (Or.inl ⟨by rfl, ?_⟩) (by assumption) ?_
  rotate_left
  · intro w' hSw; go_simp <;> with_reducible rfl
  simp only [Act.put, q9]
  refine wpAnyH_ready (rs := [4, 6]) (by kernel_rfl) (by simp) ?_
  refine AllReadyH.cons rfl (fun K hK => ?cA) (AllReadyH.cons rfl (fun K hK => ?cB) AllReadyH.nil)
  case' cA =>
    go_simp
    go_wp2_with (go_at_call 39; refine ((unhide hcC) _ EU.drew).mono ?_; rintro e w8 ⟨g, c8, rfl, o8, F8⟩; have F8' := (Ext.refl U).drew.trans F8; have HO8 := hide o8; clear o8 F8)
    refine hK.out _ _ ⟨F8'.cell p0, F8'.cell p1⟩ (fun hHeld => ?_)
    clear hK K
    refine wpAnyH_take (i := 5) (v := ?_) rfl (by kernel_rfl) (by kernel_rfl) (by kernel_rfl) (fun _ _ _ h => h) (Or.inl ⟨by rfl, ?_⟩) (by assumption) ?_
    rotate_left
    · intro w' hSw; go_simp <;> with_reducible rfl
    simp only [Act.put, q9]
    refine wpAnyH_ready (rs := [6]) (by kernel_rfl) (by simp) ?_
    refine AllReadyH.cons rfl (fun K hK => ?_) AllReadyH.nil
    have F9 := F8'.alloc (.cells #[.int .i64 0, .slice none 0 0] 27)
    have d0 := block_new (w := w8) (cs := #[.int .i64 0, .slice none 0 0]) (T := 27) 0 (.int .i64 0) rfl
    have d1 := block_new (w := w8) (cs := #[.int .i64 0, .slice none 0 0]) (T := 27) 1 (.slice none 0 0) rfl
    go_simp
    refine hK.out _ _ ⟨F9.cell p0, F9.cell p1⟩ (fun hHeld => ?_)
    clear hK K
    have HD : Hid (U.heap.size ≤ w8.heap.size ∧ (Value.slice (some ⟨g, 0, none⟩) n c8).ownBlock ≠ some w8.heap.size) := hide ⟨F8'.size, fun e => by have := ((unhide HO8).lt _ e).2; omega⟩
    have HOD := hide ((unhide HO8).ext ((Ext.refl w8).alloc (.cells #[.int .i64 0, .slice none 0 0] 27)))
    clear HO8
    obtain ⟨D, hD⟩ : ∃ D, D = w8.heap.size := ⟨_, rfl⟩
    obtain ⟨WD, hWD⟩ : ∃ WD, WD = w8.alloc (.cells #[.int .i64 0, .slice none 0 0] 27) := ⟨_, rfl⟩
    rw [← hWD] at F9 d0 d1 HOD ⊢
    rw [← hD] at d0 d1 HD ⊢
    clear hD hWD F8'
    have HG : Hid (w.heap.size + 2 ≤ g) := hide (by have h9 := ((unhide HOD).lt g rfl).1; have h8 : U.drew.heap.size = U.heap.size := rfl; omega)
    have HOE := hide ((unhide HOD).mono (base' := w.heap.size) (by have h8 : U.drew.heap.size = U.heap.size := rfl; omega))
    clear HOD
  case' cB =>
    have F7 : Ext U (U.alloc (.cells #[.int .i64 0, .slice none 0 0] 27)).drew := ((Ext.refl U).alloc _).drew
    have e0 : (U.alloc (.cells #[.int .i64 0, .slice none 0 0] 27)).drew.cell? ⟨w.heap.size + 2, 0, none⟩ = some (.int .i64 0) ∧ (U.alloc (.cells #[.int .i64 0, .slice none 0 0] 27)).drew.frozen? ⟨w.heap.size + 2, 0, none⟩ = false := by rw [← hz]; exact block_new 0 _ rfl
    have e1 : (U.alloc (.cells #[.int .i64 0, .slice none 0 0] 27)).drew.cell? ⟨w.heap.size + 2, 1, none⟩ = some (.slice none 0 0) ∧ (U.alloc (.cells #[.int .i64 0, .slice none 0 0] 27)).drew.frozen? ⟨w.heap.size + 2, 1, none⟩ = false := by rw [← hz]; exact block_new 1 _ rfl
    have hzV : (U.alloc (.cells #[.int .i64 0, .slice none 0 0] 27)).drew.heap.size = w.heap.size + 3 := by have h8 : (U.alloc (.cells #[.int .i64 0, .slice none 0 0] 27)).drew.heap.size = (U.alloc (.cells #[.int .i64 0, .slice none 0 0] 27)).heap.size := rfl; rw [h8]; simp [hz]
    go_simp
    refine hK.out _ _ ⟨F7.cell p0, F7.cell p1⟩ (fun hHeld => ?_)
    clear hK K
    obtain ⟨V, hV⟩ : ∃ V, V = (U.alloc (.cells #[.int .i64 0, .slice none 0 0] 27)).drew := ⟨_, rfl⟩
    rw [← hV] at F7 e0 e1 hzV hHeld ⊢
    clear hV
    refine wpAnyH_ready (rs := [4]) (by kernel_rfl) (by simp) ?_
    refine AllReadyH.cons rfl (fun K hK => ?_) AllReadyH.nil
    go_simp
    go_wp2_with (go_at_call 39; refine ((unhide hcC) _ (EU.trans F7)).mono ?_; rintro e w8 ⟨g, c8, rfl, o8, F8⟩; have HO8 := hide o8; clear o8)
    refine hK.out _ _ ⟨(F7.trans F8).cell p0, (F7.trans F8).cell p1⟩ (fun hHeld => ?_)
    clear hK K
    refine wpAnyH_take (i := 5) (v := ?_) rfl (by kernel_rfl) (by kernel_rfl) (by kernel_rfl) (fun _ _ _ h => h) (Or.inl ⟨by rfl, ?_⟩) (by assumption) ?_
    rotate_left
    · intro w' hSw; go_simp <;> with_reducible rfl
    simp only [Act.put, q9]
    have F9 := F7.trans F8
    have d0 : w8.cell? ⟨w.heap.size + 2, 0, none⟩ = some (.int .i64 0) ∧ w8.frozen? ⟨w.heap.size + 2, 0, none⟩ = false := ⟨F8.cell e0.1, by rw [F8.rules.2 _ _ (by omega)]; exact e0.2⟩
    have d1 : w8.cell? ⟨w.heap.size + 2, 1, none⟩ = some (.slice none 0 0) ∧ w8.frozen? ⟨w.heap.size + 2, 1, none⟩ = false := ⟨F8.cell e1.1, by rw [F8.rules.2 _ _ (by omega)]; exact e1.2⟩
    have HD : Hid (U.heap.size ≤ w.heap.size + 2 ∧ (Value.slice (some ⟨g, 0, none⟩) n c8).ownBlock ≠ some (w.heap.size + 2)) := hide ⟨by omega, fun e => by have := ((unhide HO8).lt _ e).1; omega⟩
    have HG : Hid (w.heap.size + 2 ≤ g) := hide (by have h9 := ((unhide HO8).lt g rfl).1; omega)
    have HOE := hide ((unhide HO8).mono (base' := w.heap.size) (by omega))
    clear HO8 e0 e1 hzV F7
    obtain ⟨D, hD⟩ : ∃ D, D = w.heap.size + 2 := ⟨_, rfl⟩
    rw [← hD] at d0 d1 HD ⊢
    clear hD
    obtain ⟨WD, hWD⟩ : ∃ WD, WD = w8 := ⟨_, rfl⟩
    rw [← hWD] at F9 d0 d1 HOE hHeld ⊢
    clear hWD F8
  all_goals
    obtain ⟨d0, z0⟩ := d0
    obtain ⟨d1, z1⟩ := d1
    obtain ⟨hD1, hD2⟩ := unhide HD
    have bD1 : w.heap.size ≠ D := by omega
    have bD2 : w.heap.size + 1 ≠ D := by omega
    refine wpAnyH_ready (rs := [7]) (by kernel_rfl) (by simp) ?_
    refine AllReadyH.cons rfl (fun K hK => ?_) AllReadyH.nil
    have t0 := hist_else (c := cap) (v' := .slice (some ⟨g, 0, none⟩) n c8) (F9.cell p0) bD1.symm
    have t1 := hist_else (c := cap) (v' := .slice (some ⟨g, 0, none⟩) n c8) (F9.cell p1) bD1.symm
    have ST := hist_store (c' := cap) (v' := .slice (some ⟨g, 0, none⟩) n c8) d0 d1
    have y0 := hist_frozen (B := D) (c := cap) (v' := .slice (some ⟨g, 0, none⟩) n c8) z0
    have y1 := hist_frozen (B := D) (c := cap) (v' := .slice (some ⟨g, 0, none⟩) n c8) z1
    have EX : Ext U ((WD.setCell ⟨D, 0, none⟩ (.int .i64 cap)).setCell ⟨D, 1, none⟩ (.slice (some ⟨g, 0, none⟩) n c8)) := (F9.setCell hD1 _).setCell hD1 _
    have HOX := hide (((unhide HOE).away ⟨D, 0, none⟩ hD2 (.int .i64 cap)).away ⟨D, 1, none⟩ hD2 (.slice (some ⟨g, 0, none⟩) n c8))
    go_simp
    refine hK.out _ _ ⟨t0, t1⟩ (fun hHeld => ?_)
    clear hK K
    refine wpAnyH_done (by kernel_rfl) ?_ _
    obtain ⟨X, hX⟩ : ∃ X, X = ((WD.setCell ⟨D, 0, none⟩ (.int .i64 cap)).setCell ⟨D, 1, none⟩ (.slice (some ⟨g, 0, none⟩) n c8)) := ⟨_, rfl⟩
    rw [← hX] at t0 t1 ST y0 y1 EX HOX ⊢
    clear hX hHeld HOE HD d0 d1 z0 z1
    obtain ⟨r0, r1⟩ := ST
    go_wp2_with fail
    refine ((unhide hcH) X (EU.trans EX)).mono ?_
    rintro e w1 ⟨rfl, F1⟩
    have x0 := F1.cell r0
    have x1 := F1.cell r1
    have x2 := F1.cell t0
    have x3 := F1.cell t1
    cases bh with
    | false =>
      have hfin : Hid (ok = false) := hide (no_of (unhide HK) (fun h => by have := (unhide HH).2 h.1; cases this))
      exact absurd (unhide HSEL).1 (fun h => by have := (unhide HH).2 h.1; cases this)
    | true =>
      go_wp2_with fail
      refine ((unhide hcI) w1).mono ?_
      rintro e w2 ⟨rfl, F2⟩
      have E2 := F1.trans F2
      have x0 := E2.cell r0
      have x1 := E2.cell r1
      have x2 := E2.cell t0
      have x3 := E2.cell t1
      cases bi with
      | false =>
        have hfin : Hid (ok = false) := hide (no_of (unhide HK) (fun h => by have := (unhide HI).2 h.2.1; cases this))
        exact absurd (unhide HSEL).1 (fun h => by have := (unhide HI).2 h.2.1; cases this)
      | true =>
        have hH := (unhide HH).1 (by simp)
        have hIt := hide ((unhide HI).1 (by simp))
        have k1 := hH.1
        have k2 := hH.2.1
        have k3 := hH.2.2.1
        have HHP := hide hH
        clear hH HH HI
        by_cases h0 : n = 0
        · have hd0 : decide ((0 : Int) < (n : Int)) = false := by rw [decide_eq_false_iff_not]; omega
          have hd1 : decide (0 < n) = false := by rw [decide_eq_false_iff_not]; omega
          have hd2 : ¬ (0 : Int) < (n : Int) := by omega
          have hd3 : ¬ 0 < n := by omega
          have hfin : Hid (ok = true) := hide ((unhide HK).2 ⟨unhide HHP, unhide hIt, .inl h0⟩)
          have H0 := hide h0
          clear h0
          exact absurd (unhide H0) (unhide HSEL).2.1
        · have b0 : (0 : Int) < (n : Int) := by omega
          have hw1 : IntKind.i64.wrap ((n : Int) - 1) = ((n - 1 : Nat) : Int) := by rw [IntKind.wrap_i64]; omega
          have b1 : ((n - 1 : Nat) : Int) < (n : Int) := by omega
          obtain ⟨ao, ca', hvv, _, hxx⟩ := (unhide HV).ext (EU.trans (EX.trans E2))
          simp only [Value.slice.injEq] at hvv
          obtain ⟨rfl, -, rfl⟩ := hvv
          obtain ⟨bb, off, e, hcc⟩ := hxx (by omega)
          obtain rfl := Option.some.inj e
          have g1 : w2.cell? ⟨bb, off + (n - 1), none⟩ = some (.string (tx (n - 1))) := hcc (n - 1) (by omega)
          clear hcc hxx
          by_cases he : tx (n - 1) = text
          · have hfin : Hid (ok = false) := hide (no_of (unhide HK) (fun h => h.2.2.elim h0 (fun h9 => h9 he)))
            rw [he] at g1
            exact absurd (unhide HSEL).1 (fun h => h.2.2.elim h0 (fun h9 => h9 he))
          · have hne1 := str_ne he
            have hfin : Hid (ok = true) := hide ((unhide HK).2 ⟨unhide HHP, unhide hIt, .inr he⟩)
            clear he
            obtain ⟨ys, hy, hyy⟩ := (unhide HOX).ext E2
            have HL : Hid (ys.length = n) := hide (by have := hy.1; omega)
            have HY := hide hyy
            have HOA := hide (hy.alloc (.cells #[.string text] 9))
            have EK := EX.trans E2
            have zb := EK.size
            have zE2 := E2.size
            have hDX : D < X.heap.size := lt_of_cell r0
            have gl := unhide HG
            have NF := hide (fun b i (hb : b < w2.heap.size) (hbg : b ≠ g) (w3 : World) (G3 : (w2.alloc (.cells #[.string text] 9)).grownBy w3 (some g)) => show w3.cell? ⟨b, i, none⟩ = w2.cell? ⟨b, i, none⟩ ∧ w3.frozen? ⟨b, i, none⟩ = w2.frozen? ⟨b, i, none⟩ from
              ⟨(G3.cell_far ⟨b, i, none⟩ (by simp; omega) (by simp [hbg])).trans (((Ext.refl w2).alloc _).rules.1 b i hb), (G3.frozen_far ⟨b, i, none⟩ (by simp; omega) (by simp [hbg])).trans (((Ext.refl w2).alloc _).rules.2 b i hb)⟩)
            clear hy hyy
            go_wp2_with (at_builtin; go_must (refine wpList_append_lies _ rfl _ _ 22 rfl w.heap.size 9 ic (.string { data := #[] }) 1 16 Tryd.underlying22 hic hc0 hc1 hc2 rfl (by decide) _ n ys rfl (unhide HOA) ⟨w2.heap.size, 0, none⟩ 1 1 [.string text] rfl rfl (news1 w2 text _) (by simp [Value.oneCell']) (by decide) (by unfold maxLen; omega) (by omega) (by simp; omega) (w2.heap.size + 1) (by simp) ?_))
            intro g3 c3 w3 o3 G3 at3 lt3
            have hg3 : g3 = g ∨ g3 = w2.heap.size + 1 := at3.imp (fun e => (Option.some.inj e).symm) id
            have hg3D : g3 ≠ D := by
              rcases hg3 with rfl | rfl
              · exact fun e => hD2 (by rw [← e]; rfl)
              · omega
            have hg3w : w.heap.size + 2 ≤ g3 := by rcases hg3 with rfl | rfl <;> omega
            have hgD : D ≠ g := fun e => hD2 (by rw [e]; rfl)
            have E3 : Ext w w3 := ((EU.trans EK).alloc _).grown G3 (fun q hq => by have h2 := Option.some.inj hq; simp only at h2; omega)
            obtain ⟨n0, m0⟩ := (unhide NF) D 0 (by omega) hgD w3 G3
            obtain ⟨n1, m1⟩ := (unhide NF) D 1 (by omega) hgD w3 G3
            obtain ⟨nb, _⟩ := (unhide NF) w.heap.size 0 (by omega) (by omega) w3 G3
            obtain ⟨n2, m2⟩ := (unhide NF) (w.heap.size + 1) 0 (by omega) (by omega) w3 G3
            obtain ⟨n3, m3⟩ := (unhide NF) (w.heap.size + 1) 1 (by omega) (by omega) w3 G3
            rw [E2.cell r0] at n0
            rw [E2.cell r1] at n1
            rw [EK.cell p0] at nb
            rw [EK.cell p2] at n2
            rw [EK.cell p3] at n3
            rw [((unhide FZ) w2 EK).1] at m2
            rw [((unhide FZ) w2 EK).2] at m3
            rw [E2.rules.2 _ _ hDX, y0] at m0
            rw [E2.rules.2 _ _ hDX, y1] at m1
            have HO3 : Hid (Own1 w3 w.heap.size 9 (.slice (some ⟨g3, 0, none⟩) (n + 1) c3) (n + 1) (fun j => .string (if j < n then tx j else text))) := hide ⟨_, o3, fun j hj => by
              by_cases e : j = n
              · subst e
                rw [List.getElem?_append_right (by rw [unhide HL]; omega), unhide HL]
                simp
              · rw [List.getElem?_append_left (by rw [unhide HL]; omega), (unhide HY) j (by omega)]
                simp [show j < n by omega]⟩
            have hc3 : n + 1 ≤ c3 := by
              obtain ⟨_, h | ⟨g', c', cur, h1, _, _, h2, _⟩⟩ := o3
              · exact absurd h.1 (by simp)
              · simp only [Value.slice.injEq] at h1; omega
            have YE : Ext w (w3.setCell ⟨D, 1, none⟩ (.slice (some ⟨g3, 0, none⟩) (n + 1) c3)) := E3.setCell (by dsimp only; omega) _
            have YO := hide ((unhide HO3).away ⟨D, 1, none⟩ (fun e => hg3D (Option.some.inj e)) (.slice (some ⟨g3, 0, none⟩) (n + 1) c3))
            have j1 : (w3.setCell ⟨D, 1, none⟩ (.slice (some ⟨g3, 0, none⟩) (n + 1) c3)).cell? ⟨D, 1, none⟩ = some (.slice (some ⟨g3, 0, none⟩) (n + 1) c3) := World.cell?_setCell_same _ _ _ n1
            have j0 : (w3.setCell ⟨D, 1, none⟩ (.slice (some ⟨g3, 0, none⟩) (n + 1) c3)).cell? ⟨D, 0, none⟩ = some (.int .i64 cap) := by rw [World.cell?_setCell_other _ _ _ _ (by simp)]; exact n0
            have jb : (w3.setCell ⟨D, 1, none⟩ (.slice (some ⟨g3, 0, none⟩) (n + 1) c3)).cell? ⟨w.heap.size, 0, none⟩ = some (.int .i64 cap) := by rw [World.cell?_setCell_other _ _ _ _ (fun e => bD1 (congrArg Addr.block e).symm)]; exact nb
            have j2 : (w3.setCell ⟨D, 1, none⟩ (.slice (some ⟨g3, 0, none⟩) (n + 1) c3)).cell? ⟨w.heap.size + 1, 0, none⟩ = some (.int .i64 0) := by rw [World.cell?_setCell_other _ _ _ _ (fun e => bD2 (congrArg Addr.block e).symm)]; exact n2
            have j3 : (w3.setCell ⟨D, 1, none⟩ (.slice (some ⟨g3, 0, none⟩) (n + 1) c3)).cell? ⟨w.heap.size + 1, 1, none⟩ = some (.slice none 0 0) := by rw [World.cell?_setCell_other _ _ _ _ (fun e => bD2 (congrArg Addr.block e).symm)]; exact n3
            have k0 : (w3.setCell ⟨D, 1, none⟩ (.slice (some ⟨g3, 0, none⟩) (n + 1) c3)).frozen? ⟨D, 0, none⟩ = false := by rw [World.frozen?_setCell]; exact m0
            have k1' : (w3.setCell ⟨D, 1, none⟩ (.slice (some ⟨g3, 0, none⟩) (n + 1) c3)).frozen? ⟨D, 1, none⟩ = false := by rw [World.frozen?_setCell]; exact m1
            have k2' : (w3.setCell ⟨D, 1, none⟩ (.slice (some ⟨g3, 0, none⟩) (n + 1) c3)).frozen? ⟨w.heap.size + 1, 0, none⟩ = false := by rw [World.frozen?_setCell]; exact m2
            have k3' : (w3.setCell ⟨D, 1, none⟩ (.slice (some ⟨g3, 0, none⟩) (n + 1) c3)).frozen? ⟨w.heap.size + 1, 1, none⟩ = false := by rw [World.frozen?_setCell]; exact m3
            clear o3 G3 at3 HO3 NF HOA HOX
            by_cases hcap : (n : Int) = cap
            · exact absurd hcap (unhide HSEL).2.2
            · have hle : ¬ cap < (n : Int) + 1 := by omega
              have HST := hide (hist_store (c' := cap) (v' := .slice (some ⟨g3, 0, none⟩) (n + 1) c3) j2 j3)
              have hne : (Value.slice (some ⟨g3, 0, none⟩) (n + 1) c3).ownBlock ≠ some (w.heap.size + 1) := fun e => by have h2 := Option.some.inj e; simp only at h2; omega
              have HO4 := hide (((unhide YO).away ⟨w.heap.size + 1, 0, none⟩ hne (.int .i64 cap)).away ⟨w.heap.size + 1, 1, none⟩ hne (.slice (some ⟨g3, 0, none⟩) (n + 1) c3))
              have E9 : Ext w (((w3.setCell ⟨D, 1, none⟩ (.slice (some ⟨g3, 0, none⟩) (n + 1) c3)).setCell ⟨w.heap.size + 1, 0, none⟩ (.int .i64 cap)).setCell ⟨w.heap.size + 1, 1, none⟩ (.slice (some ⟨g3, 0, none⟩) (n + 1) c3)) := (YE.setCell (by dsimp only; omega) _).setCell (by dsimp only; omega) _
              have HADN : Hid (addN true cap n = n + 1) := hide (by simp [addN, hcap])
              have HADD : Hid (∀ j, (if j < n then tx j else text) = addT true cap n tx text j) := hide (fun j => by simp [addT, hcap])
              clear hne hcap
              go_wp2
              obtain ⟨r0', r1'⟩ := unhide HST
              rw [unhide hfin, unhide HADN]
              refine bodyPost_ret (v := .tuple #[.agg #[.int .i64 cap, .slice (some ⟨g3, 0, none⟩) (n + 1) c3], .bool true]) (by simp [results, Tryd.results19, go_sem, r0', r1']) rfl ⟨_, rfl, (unhide HO4).congr (fun j hj => by rw [(unhide HADD) j]), E9⟩
set_option linter.unusedSimpArgs false in
set_option maxRecDepth 10000 in
set_option maxHeartbeats 8000000 in
theorem specAdd_4 (cap : Int) (ad : Addr) (n ca : Nat) (tx : Nat → ByteArray) (text : ByteArray) (w : World) (hv : Row1At w (.slice (some ad) n ca) n (fun j => .string (tx j))) (hn : n ≤ 1048576) (hx : ∀ j, j < n → (tx j).size ≤ 1048576) (ht : text.size ≤ 1048576) (ok : Bool) (hok : ok = true ↔ AddP cap n tx text) (hsel : AddP cap n tx text ∧ n ≠ 0 ∧ (n : Int) = cap) :
    Calls Tryd.prog 19 #[.agg #[.int .i64 cap, .slice (some ad) n ca], .string text] w fun e w' => ∃ v, e = .returned (.tuple #[.agg #[.int .i64 cap, v], .bool ok]) ∧ Own1 w' w.heap.size 9 v (addN ok cap n) (fun j => .string (addT ok cap n tx text j)) ∧ Ext w w' := by
  have HSEL := hide hsel
  clear hsel
  obtain ⟨ic, hic, hc0, hc1, hc2⟩ := info_parts infoStrs
  obtain ⟨bh, hbh⟩ := yes_no (HistP cap n tx)
  obtain ⟨bi, hbi⟩ := yes_no (ItemP (baL text))
  have hcH := hide (fun W (hW : Ext w W) => specHistoryOk_any cap (.slice (some ad) n ca) n tx W (hv.ext hW) hn hx bh hbh)
  have hcI := hide (fun W => l5TextOk_ba text W ht bi hbi)
  have hcC := hide (fun W (hW : Ext w W) => l5Copy_some ad n ca tx W (hv.ext hW) hn)
  have HV := hide hv
  have HH := hide hbh
  have HI := hide hbi
  have HK := hide hok
  clear hv hx hok hbh hbi
  have EU := ((Ext.refl w).alloc (.cells #[.int .i64 cap, .slice (some ad) n ca] 27)).alloc (.cells #[.int .i64 0, .slice none 0 0] 27)
  have p0 : ((w.alloc (.cells #[.int .i64 cap, .slice (some ad) n ca] 27)).alloc (.cells #[.int .i64 0, .slice none 0 0] 27)).cell? ⟨w.heap.size, 0, none⟩ = some (.int .i64 cap) := by simp [go_sem]
  have p1 : ((w.alloc (.cells #[.int .i64 cap, .slice (some ad) n ca] 27)).alloc (.cells #[.int .i64 0, .slice none 0 0] 27)).cell? ⟨w.heap.size, 1, none⟩ = some (.slice (some ad) n ca) := by simp [go_sem]
  have p2 : ((w.alloc (.cells #[.int .i64 cap, .slice (some ad) n ca] 27)).alloc (.cells #[.int .i64 0, .slice none 0 0] 27)).cell? ⟨w.heap.size + 1, 0, none⟩ = some (.int .i64 0) := by simp [go_sem]
  have p3 : ((w.alloc (.cells #[.int .i64 cap, .slice (some ad) n ca] 27)).alloc (.cells #[.int .i64 0, .slice none 0 0] 27)).cell? ⟨w.heap.size + 1, 1, none⟩ = some (.slice none 0 0) := by simp [go_sem]
  have z2 : ((w.alloc (.cells #[.int .i64 cap, .slice (some ad) n ca] 27)).alloc (.cells #[.int .i64 0, .slice none 0 0] 27)).frozen? ⟨w.heap.size + 1, 0, none⟩ = false := by simp [go_sem]
  have z3 : ((w.alloc (.cells #[.int .i64 cap, .slice (some ad) n ca] 27)).alloc (.cells #[.int .i64 0, .slice none 0 0] 27)).frozen? ⟨w.heap.size + 1, 1, none⟩ = false := by simp [go_sem]
  obtain ⟨U, hU⟩ : ∃ U, U = ((w.alloc (.cells #[.int .i64 cap, .slice (some ad) n ca] 27)).alloc (.cells #[.int .i64 0, .slice none 0 0] 27)) := ⟨_, rfl⟩
  have hz : U.heap.size = w.heap.size + 2 := by rw [hU]; simp
  rw [← hU] at EU p0 p1 p2 p3 z2 z3
  have HU := hide hU
  have FZ := hide (fun W (hW : Ext U W) => show W.frozen? ⟨w.heap.size + 1, 0, none⟩ = false ∧ W.frozen? ⟨w.heap.size + 1, 1, none⟩ = false from ⟨by rw [hW.rules.2 _ _ (by omega)]; exact z2, by rw [hW.rules.2 _ _ (by omega)]; exact z3⟩)
  clear hU z2 z3
  have s0 : U.drew.cell? ⟨w.heap.size, 0, none⟩ = some (.int .i64 cap) := p0
  go_enter Tryd.func19, Tryd.ntmps19
  go_wp2
  rw [← unhide HU]
  clear HU
  refine wp_region_held_drew (S := fun W => W.cell? ⟨w.heap.size, 0, none⟩ = some (.int .i64 cap) ∧ W.cell? ⟨w.heap.size, 1, none⟩ = some (.slice (some ad) n ca)) (by kernel_rfl) ⟨p0, p1⟩ (fun hHeld => ?_)
  refine wpAnyH_take (i := 0) (v := ?_) rfl (by kernel_rfl) (by kernel_rfl) (by kernel_rfl) (fun _ _ _ h => h) (Or.inl ⟨by rfl, ?_⟩) (by assumption) ?_
  rotate_left
  · intro w' hSw; go_simp <;> with_reducible rfl
  simp only [Act.put, q9]
  refine wpAnyH_take (i := 1) (v := ?_) rfl (by kernel_rfl) (by kernel_rfl) (by kernel_rfl) (fun _ _ _ h => h) (Or.inl ⟨by rfl, ?_⟩) (by assumption) ?_
  rotate_left
  · intro w' hSw; go_simp <;> with_reducible rfl
  simp only [Act.put, q9]
  refine wpAnyH_take (i := 2) (v := ?_) rfl (by kernel_rfl) (by kernel_rfl) (by kernel_rfl) (fun _ _ _ h => h) (Or.inl ⟨by rfl, ?_⟩) (by assumption) ?_
  rotate_left
  · intro w' hSw; go_simp <;> with_reducible rfl
  simp only [Act.put, q9]
  refine wpAnyH_take (i := 3) (v := ?_) rfl (by kernel_rfl) (by kernel_rfl) (by kernel_rfl) (fun _ _ _ h => h) (Or.inl ⟨by rfl, ?_⟩) (by assumption) ?_
  rotate_left
  · intro w' hSw; go_simp <;> with_reducible rfl
  simp only [Act.put, q9]
  refine wpAnyH_ready (rs := [4, 6]) (by kernel_rfl) (by simp) ?_
  refine AllReadyH.cons rfl (fun K hK => ?cA) (AllReadyH.cons rfl (fun K hK => ?cB) AllReadyH.nil)
  case' cA =>
    go_simp
    go_wp2_with (go_at_call 39; refine ((unhide hcC) _ EU.drew).mono ?_; rintro e w8 ⟨g, c8, rfl, o8, F8⟩; have F8' := (Ext.refl U).drew.trans F8; have HO8 := hide o8; clear o8 F8)
    refine hK.out _ _ ⟨F8'.cell p0, F8'.cell p1⟩ (fun hHeld => ?_)
    clear hK K
    refine wpAnyH_take (i := 5) (v := ?_) rfl (by kernel_rfl) (by kernel_rfl) (by kernel_rfl) (fun _ _ _ h => h) (Or.inl ⟨by rfl, ?_⟩) (by assumption) ?_
    rotate_left
    · intro w' hSw; go_simp <;> with_reducible rfl
    simp only [Act.put, q9]
    refine wpAnyH_ready (rs := [6]) (by kernel_rfl) (by simp) ?_
    refine AllReadyH.cons rfl (fun K hK => ?_) AllReadyH.nil
    have F9 := F8'.alloc (.cells #[.int .i64 0, .slice none 0 0] 27)
    have d0 := block_new (w := w8) (cs := #[.int .i64 0, .slice none 0 0]) (T := 27) 0 (.int .i64 0) rfl
    have d1 := block_new (w := w8) (cs := #[.int .i64 0, .slice none 0 0]) (T := 27) 1 (.slice none 0 0) rfl
    go_simp
    refine hK.out _ _ ⟨F9.cell p0, F9.cell p1⟩ (fun hHeld => ?_)
    clear hK K
    have HD : Hid (U.heap.size ≤ w8.heap.size ∧ (Value.slice (some ⟨g, 0, none⟩) n c8).ownBlock ≠ some w8.heap.size) := hide ⟨F8'.size, fun e => by have := ((unhide HO8).lt _ e).2; omega⟩
    have HOD := hide ((unhide HO8).ext ((Ext.refl w8).alloc (.cells #[.int .i64 0, .slice none 0 0] 27)))
    clear HO8
    obtain ⟨D, hD⟩ : ∃ D, D = w8.heap.size := ⟨_, rfl⟩
    obtain ⟨WD, hWD⟩ : ∃ WD, WD = w8.alloc (.cells #[.int .i64 0, .slice none 0 0] 27) := ⟨_, rfl⟩
    rw [← hWD] at F9 d0 d1 HOD ⊢
    rw [← hD] at d0 d1 HD ⊢
    clear hD hWD F8'
    have HG : Hid (w.heap.size + 2 ≤ g) := hide (by have h9 := ((unhide HOD).lt g rfl).1; have h8 : U.drew.heap.size = U.heap.size := rfl; omega)
    have HOE := hide ((unhide HOD).mono (base' := w.heap.size) (by have h8 : U.drew.heap.size = U.heap.size := rfl; omega))
    clear HOD
  case' cB =>
    have F7 : Ext U (U.alloc (.cells #[.int .i64 0, .slice none 0 0] 27)).drew := ((Ext.refl U).alloc _).drew
    have e0 : (U.alloc (.cells #[.int .i64 0, .slice none 0 0] 27)).drew.cell? ⟨w.heap.size + 2, 0, none⟩ = some (.int .i64 0) ∧ (U.alloc (.cells #[.int .i64 0, .slice none 0 0] 27)).drew.frozen? ⟨w.heap.size + 2, 0, none⟩ = false := by rw [← hz]; exact block_new 0 _ rfl
    have e1 : (U.alloc (.cells #[.int .i64 0, .slice none 0 0] 27)).drew.cell? ⟨w.heap.size + 2, 1, none⟩ = some (.slice none 0 0) ∧ (U.alloc (.cells #[.int .i64 0, .slice none 0 0] 27)).drew.frozen? ⟨w.heap.size + 2, 1, none⟩ = false := by rw [← hz]; exact block_new 1 _ rfl
    have hzV : (U.alloc (.cells #[.int .i64 0, .slice none 0 0] 27)).drew.heap.size = w.heap.size + 3 := by have h8 : (U.alloc (.cells #[.int .i64 0, .slice none 0 0] 27)).drew.heap.size = (U.alloc (.cells #[.int .i64 0, .slice none 0 0] 27)).heap.size := rfl; rw [h8]; simp [hz]
    go_simp
    refine hK.out _ _ ⟨F7.cell p0, F7.cell p1⟩ (fun hHeld => ?_)
    clear hK K
    obtain ⟨V, hV⟩ : ∃ V, V = (U.alloc (.cells #[.int .i64 0, .slice none 0 0] 27)).drew := ⟨_, rfl⟩
    rw [← hV] at F7 e0 e1 hzV hHeld ⊢
    clear hV
    refine wpAnyH_ready (rs := [4]) (by kernel_rfl) (by simp) ?_
    refine AllReadyH.cons rfl (fun K hK => ?_) AllReadyH.nil
    go_simp
    go_wp2_with (go_at_call 39; refine ((unhide hcC) _ (EU.trans F7)).mono ?_; rintro e w8 ⟨g, c8, rfl, o8, F8⟩; have HO8 := hide o8; clear o8)
    refine hK.out _ _ ⟨(F7.trans F8).cell p0, (F7.trans F8).cell p1⟩ (fun hHeld => ?_)
    clear hK K
    refine wpAnyH_take (i := 5) (v := ?_) rfl (by kernel_rfl) (by kernel_rfl) (by kernel_rfl) (fun _ _ _ h => h) (Or.inl ⟨by rfl, ?_⟩) (by assumption) ?_
    rotate_left
    · intro w' hSw; go_simp <;> with_reducible rfl
    simp only [Act.put, q9]
    have F9 := F7.trans F8
    have d0 : w8.cell? ⟨w.heap.size + 2, 0, none⟩ = some (.int .i64 0) ∧ w8.frozen? ⟨w.heap.size + 2, 0, none⟩ = false := ⟨F8.cell e0.1, by rw [F8.rules.2 _ _ (by omega)]; exact e0.2⟩
    have d1 : w8.cell? ⟨w.heap.size + 2, 1, none⟩ = some (.slice none 0 0) ∧ w8.frozen? ⟨w.heap.size + 2, 1, none⟩ = false := ⟨F8.cell e1.1, by rw [F8.rules.2 _ _ (by omega)]; exact e1.2⟩
    have HD : Hid (U.heap.size ≤ w.heap.size + 2 ∧ (Value.slice (some ⟨g, 0, none⟩) n c8).ownBlock ≠ some (w.heap.size + 2)) := hide ⟨by omega, fun e => by have := ((unhide HO8).lt _ e).1; omega⟩
    have HG : Hid (w.heap.size + 2 ≤ g) := hide (by have h9 := ((unhide HO8).lt g rfl).1; omega)
    have HOE := hide ((unhide HO8).mono (base' := w.heap.size) (by omega))
    clear HO8 e0 e1 hzV F7
    obtain ⟨D, hD⟩ : ∃ D, D = w.heap.size + 2 := ⟨_, rfl⟩
    rw [← hD] at d0 d1 HD ⊢
    clear hD
    obtain ⟨WD, hWD⟩ : ∃ WD, WD = w8 := ⟨_, rfl⟩
    rw [← hWD] at F9 d0 d1 HOE hHeld ⊢
    clear hWD F8
  all_goals
    obtain ⟨d0, z0⟩ := d0
    obtain ⟨d1, z1⟩ := d1
    obtain ⟨hD1, hD2⟩ := unhide HD
    have bD1 : w.heap.size ≠ D := by omega
    have bD2 : w.heap.size + 1 ≠ D := by omega
    refine wpAnyH_ready (rs := [7]) (by kernel_rfl) (by simp) ?_
    refine AllReadyH.cons rfl (fun K hK => ?_) AllReadyH.nil
    have t0 := hist_else (c := cap) (v' := .slice (some ⟨g, 0, none⟩) n c8) (F9.cell p0) bD1.symm
    have t1 := hist_else (c := cap) (v' := .slice (some ⟨g, 0, none⟩) n c8) (F9.cell p1) bD1.symm
    have ST := hist_store (c' := cap) (v' := .slice (some ⟨g, 0, none⟩) n c8) d0 d1
    have y0 := hist_frozen (B := D) (c := cap) (v' := .slice (some ⟨g, 0, none⟩) n c8) z0
    have y1 := hist_frozen (B := D) (c := cap) (v' := .slice (some ⟨g, 0, none⟩) n c8) z1
    have EX : Ext U ((WD.setCell ⟨D, 0, none⟩ (.int .i64 cap)).setCell ⟨D, 1, none⟩ (.slice (some ⟨g, 0, none⟩) n c8)) := (F9.setCell hD1 _).setCell hD1 _
    have HOX := hide (((unhide HOE).away ⟨D, 0, none⟩ hD2 (.int .i64 cap)).away ⟨D, 1, none⟩ hD2 (.slice (some ⟨g, 0, none⟩) n c8))
    go_simp
    refine hK.out _ _ ⟨t0, t1⟩ (fun hHeld => ?_)
    clear hK K
    refine wpAnyH_done (by kernel_rfl) ?_ _
    obtain ⟨X, hX⟩ : ∃ X, X = ((WD.setCell ⟨D, 0, none⟩ (.int .i64 cap)).setCell ⟨D, 1, none⟩ (.slice (some ⟨g, 0, none⟩) n c8)) := ⟨_, rfl⟩
    rw [← hX] at t0 t1 ST y0 y1 EX HOX ⊢
    clear hX hHeld HOE HD d0 d1 z0 z1
    obtain ⟨r0, r1⟩ := ST
    go_wp2_with fail
    refine ((unhide hcH) X (EU.trans EX)).mono ?_
    rintro e w1 ⟨rfl, F1⟩
    have x0 := F1.cell r0
    have x1 := F1.cell r1
    have x2 := F1.cell t0
    have x3 := F1.cell t1
    cases bh with
    | false =>
      have hfin : Hid (ok = false) := hide (no_of (unhide HK) (fun h => by have := (unhide HH).2 h.1; cases this))
      exact absurd (unhide HSEL).1 (fun h => by have := (unhide HH).2 h.1; cases this)
    | true =>
      go_wp2_with fail
      refine ((unhide hcI) w1).mono ?_
      rintro e w2 ⟨rfl, F2⟩
      have E2 := F1.trans F2
      have x0 := E2.cell r0
      have x1 := E2.cell r1
      have x2 := E2.cell t0
      have x3 := E2.cell t1
      cases bi with
      | false =>
        have hfin : Hid (ok = false) := hide (no_of (unhide HK) (fun h => by have := (unhide HI).2 h.2.1; cases this))
        exact absurd (unhide HSEL).1 (fun h => by have := (unhide HI).2 h.2.1; cases this)
      | true =>
        have hH := (unhide HH).1 (by simp)
        have hIt := hide ((unhide HI).1 (by simp))
        have k1 := hH.1
        have k2 := hH.2.1
        have k3 := hH.2.2.1
        have HHP := hide hH
        clear hH HH HI
        by_cases h0 : n = 0
        · have hd0 : decide ((0 : Int) < (n : Int)) = false := by rw [decide_eq_false_iff_not]; omega
          have hd1 : decide (0 < n) = false := by rw [decide_eq_false_iff_not]; omega
          have hd2 : ¬ (0 : Int) < (n : Int) := by omega
          have hd3 : ¬ 0 < n := by omega
          have hfin : Hid (ok = true) := hide ((unhide HK).2 ⟨unhide HHP, unhide hIt, .inl h0⟩)
          have H0 := hide h0
          clear h0
          exact absurd (unhide H0) (unhide HSEL).2.1
        · have b0 : (0 : Int) < (n : Int) := by omega
          have hw1 : IntKind.i64.wrap ((n : Int) - 1) = ((n - 1 : Nat) : Int) := by rw [IntKind.wrap_i64]; omega
          have b1 : ((n - 1 : Nat) : Int) < (n : Int) := by omega
          obtain ⟨ao, ca', hvv, _, hxx⟩ := (unhide HV).ext (EU.trans (EX.trans E2))
          simp only [Value.slice.injEq] at hvv
          obtain ⟨rfl, -, rfl⟩ := hvv
          obtain ⟨bb, off, e, hcc⟩ := hxx (by omega)
          obtain rfl := Option.some.inj e
          have g1 : w2.cell? ⟨bb, off + (n - 1), none⟩ = some (.string (tx (n - 1))) := hcc (n - 1) (by omega)
          clear hcc hxx
          by_cases he : tx (n - 1) = text
          · have hfin : Hid (ok = false) := hide (no_of (unhide HK) (fun h => h.2.2.elim h0 (fun h9 => h9 he)))
            rw [he] at g1
            exact absurd (unhide HSEL).1 (fun h => h.2.2.elim h0 (fun h9 => h9 he))
          · have hne1 := str_ne he
            have hfin : Hid (ok = true) := hide ((unhide HK).2 ⟨unhide HHP, unhide hIt, .inr he⟩)
            clear he
            obtain ⟨ys, hy, hyy⟩ := (unhide HOX).ext E2
            have HL : Hid (ys.length = n) := hide (by have := hy.1; omega)
            have HY := hide hyy
            have HOA := hide (hy.alloc (.cells #[.string text] 9))
            have EK := EX.trans E2
            have zb := EK.size
            have zE2 := E2.size
            have hDX : D < X.heap.size := lt_of_cell r0
            have gl := unhide HG
            have NF := hide (fun b i (hb : b < w2.heap.size) (hbg : b ≠ g) (w3 : World) (G3 : (w2.alloc (.cells #[.string text] 9)).grownBy w3 (some g)) => show w3.cell? ⟨b, i, none⟩ = w2.cell? ⟨b, i, none⟩ ∧ w3.frozen? ⟨b, i, none⟩ = w2.frozen? ⟨b, i, none⟩ from
              ⟨(G3.cell_far ⟨b, i, none⟩ (by simp; omega) (by simp [hbg])).trans (((Ext.refl w2).alloc _).rules.1 b i hb), (G3.frozen_far ⟨b, i, none⟩ (by simp; omega) (by simp [hbg])).trans (((Ext.refl w2).alloc _).rules.2 b i hb)⟩)
            clear hy hyy
            go_wp2_with (at_builtin; go_must (refine wpList_append_lies _ rfl _ _ 22 rfl w.heap.size 9 ic (.string { data := #[] }) 1 16 Tryd.underlying22 hic hc0 hc1 hc2 rfl (by decide) _ n ys rfl (unhide HOA) ⟨w2.heap.size, 0, none⟩ 1 1 [.string text] rfl rfl (news1 w2 text _) (by simp [Value.oneCell']) (by decide) (by unfold maxLen; omega) (by omega) (by simp; omega) (w2.heap.size + 1) (by simp) ?_))
            intro g3 c3 w3 o3 G3 at3 lt3
            have hg3 : g3 = g ∨ g3 = w2.heap.size + 1 := at3.imp (fun e => (Option.some.inj e).symm) id
            have hg3D : g3 ≠ D := by
              rcases hg3 with rfl | rfl
              · exact fun e => hD2 (by rw [← e]; rfl)
              · omega
            have hg3w : w.heap.size + 2 ≤ g3 := by rcases hg3 with rfl | rfl <;> omega
            have hgD : D ≠ g := fun e => hD2 (by rw [e]; rfl)
            have E3 : Ext w w3 := ((EU.trans EK).alloc _).grown G3 (fun q hq => by have h2 := Option.some.inj hq; simp only at h2; omega)
            obtain ⟨n0, m0⟩ := (unhide NF) D 0 (by omega) hgD w3 G3
            obtain ⟨n1, m1⟩ := (unhide NF) D 1 (by omega) hgD w3 G3
            obtain ⟨nb, _⟩ := (unhide NF) w.heap.size 0 (by omega) (by omega) w3 G3
            obtain ⟨n2, m2⟩ := (unhide NF) (w.heap.size + 1) 0 (by omega) (by omega) w3 G3
            obtain ⟨n3, m3⟩ := (unhide NF) (w.heap.size + 1) 1 (by omega) (by omega) w3 G3
            rw [E2.cell r0] at n0
            rw [E2.cell r1] at n1
            rw [EK.cell p0] at nb
            rw [EK.cell p2] at n2
            rw [EK.cell p3] at n3
            rw [((unhide FZ) w2 EK).1] at m2
            rw [((unhide FZ) w2 EK).2] at m3
            rw [E2.rules.2 _ _ hDX, y0] at m0
            rw [E2.rules.2 _ _ hDX, y1] at m1
            have HO3 : Hid (Own1 w3 w.heap.size 9 (.slice (some ⟨g3, 0, none⟩) (n + 1) c3) (n + 1) (fun j => .string (if j < n then tx j else text))) := hide ⟨_, o3, fun j hj => by
              by_cases e : j = n
              · subst e
                rw [List.getElem?_append_right (by rw [unhide HL]; omega), unhide HL]
                simp
              · rw [List.getElem?_append_left (by rw [unhide HL]; omega), (unhide HY) j (by omega)]
                simp [show j < n by omega]⟩
            have hc3 : n + 1 ≤ c3 := by
              obtain ⟨_, h | ⟨g', c', cur, h1, _, _, h2, _⟩⟩ := o3
              · exact absurd h.1 (by simp)
              · simp only [Value.slice.injEq] at h1; omega
            have YE : Ext w (w3.setCell ⟨D, 1, none⟩ (.slice (some ⟨g3, 0, none⟩) (n + 1) c3)) := E3.setCell (by dsimp only; omega) _
            have YO := hide ((unhide HO3).away ⟨D, 1, none⟩ (fun e => hg3D (Option.some.inj e)) (.slice (some ⟨g3, 0, none⟩) (n + 1) c3))
            have j1 : (w3.setCell ⟨D, 1, none⟩ (.slice (some ⟨g3, 0, none⟩) (n + 1) c3)).cell? ⟨D, 1, none⟩ = some (.slice (some ⟨g3, 0, none⟩) (n + 1) c3) := World.cell?_setCell_same _ _ _ n1
            have j0 : (w3.setCell ⟨D, 1, none⟩ (.slice (some ⟨g3, 0, none⟩) (n + 1) c3)).cell? ⟨D, 0, none⟩ = some (.int .i64 cap) := by rw [World.cell?_setCell_other _ _ _ _ (by simp)]; exact n0
            have jb : (w3.setCell ⟨D, 1, none⟩ (.slice (some ⟨g3, 0, none⟩) (n + 1) c3)).cell? ⟨w.heap.size, 0, none⟩ = some (.int .i64 cap) := by rw [World.cell?_setCell_other _ _ _ _ (fun e => bD1 (congrArg Addr.block e).symm)]; exact nb
            have j2 : (w3.setCell ⟨D, 1, none⟩ (.slice (some ⟨g3, 0, none⟩) (n + 1) c3)).cell? ⟨w.heap.size + 1, 0, none⟩ = some (.int .i64 0) := by rw [World.cell?_setCell_other _ _ _ _ (fun e => bD2 (congrArg Addr.block e).symm)]; exact n2
            have j3 : (w3.setCell ⟨D, 1, none⟩ (.slice (some ⟨g3, 0, none⟩) (n + 1) c3)).cell? ⟨w.heap.size + 1, 1, none⟩ = some (.slice none 0 0) := by rw [World.cell?_setCell_other _ _ _ _ (fun e => bD2 (congrArg Addr.block e).symm)]; exact n3
            have k0 : (w3.setCell ⟨D, 1, none⟩ (.slice (some ⟨g3, 0, none⟩) (n + 1) c3)).frozen? ⟨D, 0, none⟩ = false := by rw [World.frozen?_setCell]; exact m0
            have k1' : (w3.setCell ⟨D, 1, none⟩ (.slice (some ⟨g3, 0, none⟩) (n + 1) c3)).frozen? ⟨D, 1, none⟩ = false := by rw [World.frozen?_setCell]; exact m1
            have k2' : (w3.setCell ⟨D, 1, none⟩ (.slice (some ⟨g3, 0, none⟩) (n + 1) c3)).frozen? ⟨w.heap.size + 1, 0, none⟩ = false := by rw [World.frozen?_setCell]; exact m2
            have k3' : (w3.setCell ⟨D, 1, none⟩ (.slice (some ⟨g3, 0, none⟩) (n + 1) c3)).frozen? ⟨w.heap.size + 1, 1, none⟩ = false := by rw [World.frozen?_setCell]; exact m3
            clear o3 G3 at3 HO3 NF HOA HOX
            by_cases hcap : (n : Int) = cap
            · have hgt : cap < (n : Int) + 1 := by omega
              have hc1 : (1 : Int) ≤ (c3 : Int) := by omega
              have RY : Row1At (w3.setCell ⟨D, 1, none⟩ (.slice (some ⟨g3, 0, none⟩) (n + 1) c3)) (.slice (some ⟨g3, 1, none⟩) n (c3 - 1)) n (fun j => .string (if j + 1 < n then tx (j + 1) else text)) := by
                obtain ⟨ao, ca9, e9, _, hx9⟩ := (unhide YO).reads
                simp only [Value.slice.injEq] at e9
                obtain ⟨rfl, -, rfl⟩ := e9
                obtain ⟨b9, o9, e, h9⟩ := hx9 (by omega)
                simp only [Option.some.injEq, Addr.mk.injEq] at e
                obtain ⟨rfl, rfl, -⟩ := e
                refine ⟨_, _, rfl, by omega, fun _ => ⟨_, _, rfl, fun j hj => ?_⟩⟩
                have h7 := h9 (j + 1) (by omega)
                have e2 : 0 + (j + 1) = 1 + j := by omega
                rw [e2] at h7
                exact h7
              have HC5 := hide (l5Copy_some ⟨g3, 1, none⟩ n (c3 - 1) _ (w3.setCell ⟨D, 1, none⟩ (.slice (some ⟨g3, 0, none⟩) (n + 1) c3)) RY (by omega))
              have HADN : Hid (addN true cap n = n) := hide (by unfold addN; rw [if_pos rfl, if_pos hcap])
              have HADD : Hid (∀ j, (if j + 1 < n then tx (j + 1) else text) = addT true cap n tx text j) := hide (fun j => by unfold addT; rw [if_pos rfl, if_pos hcap])
              have hYD : D < (w3.setCell ⟨D, 1, none⟩ (.slice (some ⟨g3, 0, none⟩) (n + 1) c3)).heap.size := lt_of_cell j0
              have hYB : w.heap.size + 1 < (w3.setCell ⟨D, 1, none⟩ (.slice (some ⟨g3, 0, none⟩) (n + 1) c3)).heap.size := lt_of_cell j2
              clear RY
              go_wp2_with fail
              refine (unhide HC5).mono ?_
              rintro e w5 ⟨g5, c5, rfl, o5, F5⟩
              have hlt5 := (o5.lt g5 rfl).1
              have i0 := F5.cell j0
              have i1 := F5.cell j1
              have i2 := F5.cell j2
              have i3 := F5.cell j3
              have l1 : w5.frozen? ⟨D, 1, none⟩ = false := by rw [F5.rules.2 _ _ hYD]; exact k1'
              have l2 : w5.frozen? ⟨w.heap.size + 1, 0, none⟩ = false := by rw [F5.rules.2 _ _ hYB]; exact k2'
              have l3 : w5.frozen? ⟨w.heap.size + 1, 1, none⟩ = false := by rw [F5.rules.2 _ _ hYB]; exact k3'
              have u1 : (w5.setCell ⟨D, 1, none⟩ (.slice (some ⟨g5, 0, none⟩) n c5)).cell? ⟨D, 1, none⟩ = some (.slice (some ⟨g5, 0, none⟩) n c5) := World.cell?_setCell_same _ _ _ i1
              have u0 : (w5.setCell ⟨D, 1, none⟩ (.slice (some ⟨g5, 0, none⟩) n c5)).cell? ⟨D, 0, none⟩ = some (.int .i64 cap) := by rw [World.cell?_setCell_other _ _ _ _ (by simp)]; exact i0
              have u2 : (w5.setCell ⟨D, 1, none⟩ (.slice (some ⟨g5, 0, none⟩) n c5)).cell? ⟨w.heap.size + 1, 0, none⟩ = some (.int .i64 0) := by rw [World.cell?_setCell_other _ _ _ _ (fun e => bD2 (congrArg Addr.block e).symm)]; exact i2
              have u3 : (w5.setCell ⟨D, 1, none⟩ (.slice (some ⟨g5, 0, none⟩) n c5)).cell? ⟨w.heap.size + 1, 1, none⟩ = some (.slice none 0 0) := by rw [World.cell?_setCell_other _ _ _ _ (fun e => bD2 (congrArg Addr.block e).symm)]; exact i3
              have s2 : (w5.setCell ⟨D, 1, none⟩ (.slice (some ⟨g5, 0, none⟩) n c5)).frozen? ⟨w.heap.size + 1, 0, none⟩ = false := by rw [World.frozen?_setCell]; exact l2
              have s3 : (w5.setCell ⟨D, 1, none⟩ (.slice (some ⟨g5, 0, none⟩) n c5)).frozen? ⟨w.heap.size + 1, 1, none⟩ = false := by rw [World.frozen?_setCell]; exact l3
              have HST := hide (hist_store (c' := cap) (v' := .slice (some ⟨g5, 0, none⟩) n c5) u2 u3)
              have hneD : (Value.slice (some ⟨g5, 0, none⟩) n c5).ownBlock ≠ some D := fun e => by have h2 := Option.some.inj e; simp only at h2; omega
              have hne : (Value.slice (some ⟨g5, 0, none⟩) n c5).ownBlock ≠ some (w.heap.size + 1) := fun e => by have h2 := Option.some.inj e; simp only at h2; omega
              have HO4 := hide ((((o5.mono (base' := w.heap.size) (by omega)).away ⟨D, 1, none⟩ hneD (.slice (some ⟨g5, 0, none⟩) n c5)).away ⟨w.heap.size + 1, 0, none⟩ hne (.int .i64 cap)).away ⟨w.heap.size + 1, 1, none⟩ hne (.slice (some ⟨g5, 0, none⟩) n c5))
              have E9 : Ext w (((w5.setCell ⟨D, 1, none⟩ (.slice (some ⟨g5, 0, none⟩) n c5)).setCell ⟨w.heap.size + 1, 0, none⟩ (.int .i64 cap)).setCell ⟨w.heap.size + 1, 1, none⟩ (.slice (some ⟨g5, 0, none⟩) n c5)) := (((YE.trans F5).setCell (by dsimp only; omega) _).setCell (by dsimp only; omega) _).setCell (by dsimp only; omega) _
              clear hne hneD o5 hcap
              go_wp2
              obtain ⟨r0', r1'⟩ := unhide HST
              rw [unhide hfin, unhide HADN]
              refine bodyPost_ret (v := .tuple #[.agg #[.int .i64 cap, .slice (some ⟨g5, 0, none⟩) n c5], .bool true]) (by simp [results, Tryd.results19, go_sem, r0', r1']) rfl ⟨_, rfl, (unhide HO4).congr (fun j hj => by rw [(unhide HADD) j]), E9⟩
            · exact absurd (unhide HSEL).2.2 hcap
end Go.Proofs.YtaddlkhaokdpdaaDoor
