import Derived.Test.YtinfdhbnljnifaaGreatDoorFsM2
import Derived.Deep.DeepCutAuto
namespace Go.Proofs.YtinfdhbnljnifaaGreatDoor
open Go.RowKit
section
variable {base : Nat} {X : Nat → Prop} {d : SD} {gv : Value} {rv : Nat → Value} {hv bv : Value}
set_option linter.unusedSimpArgs false in
set_option maxRecDepth 10000 in
set_option maxHeartbeats 8000000 in
theorem l2Mark_not (w : World) (h : ScrV w base X d gv rv bv) (ha hc : Nat) (hs : Option Addr) (hhv : hv = .slice hs ha hc) (hk : OkP d) (t : ByteArray) (ht4 : t.size ≤ 4) (hm : ¬ d.mkAt < 0) (hl : d.late = false) :
    Calls Tryz.prog 99 #[scrV d gv hv bv, .string t] w (SpR w base X (d.mark t) hv) := by
  have hsz := size_bd hk
  have hcl := hk.col
  obtain ⟨i, ei⟩ : ∃ i : Nat, d.row = i := ⟨d.row.toNat, by have := hk.row; omega⟩
  obtain ⟨k, ek⟩ : ∃ k : Nat, d.mkAt = k := ⟨d.mkAt.toNat, by omega⟩
  have hiR : i < d.R := by have := hk.R; have := hk.row; omega
  have hCi := hk.C i hiR
  have hkC : k < d.C i := by
    have : d.mkAt ≤ d.col := by unfold SD.mkAt; split <;> omega
    omega
  have hhk := hk.half i k hiR hkC
  obtain ⟨gb, gk, gc, cur, hgv, _, hgb, _, _, _, hgA⟩ := id h.grid
  obtain ⟨ba, bc, hbv⟩ : ∃ a c, bv = .slice a d.nb c := by obtain ⟨_, h9, _⟩ := h.back; exact owns_ln h9
  subst hgv
  subst hbv
  subst hhv
  obtain ⟨g, cap, hg⟩ : ∃ g cap, rv i = .slice (some ⟨g, 0, none⟩) (d.C i) cap := by
    rcases (h.row i hiR).form with ⟨_, e⟩ | ⟨g, cap, e⟩
    · omega
    · exact ⟨g, cap, e⟩
  have hrow := h.row i hiR
  rw [hg] at hrow
  have r0 : w.cell? ⟨gb, gk + i, none⟩ = some (.slice (some ⟨g, 0, none⟩) (d.C i) cap) := by rw [← hg]; exact cells_of hgb (gk + i) _ (hgA i hiR)
  have hkm := ek
  unfold SD.mkAt at hkm
  have wm : IntKind.i64.wrap (d.col - 1) = d.col - 1 := by rw [IntKind.wrap_i64] <;> omega
  have wk : IntKind.i64.wrap ((k : Int) - 1) = (k : Int) - 1 := by rw [IntKind.wrap_i64] <;> omega
  have b1 : (i : Int) < (d.R : Int) := by omega
  have b2 : (k : Int) < (d.C i : Int) := by omega
  have b3 : (0 : Int) ≤ (k : Int) := by omega
  have b4 : ¬ (k : Int) < 0 := by omega
  obtain ⟨V, hV⟩ : ∃ V, V = (w.alloc (.cells #[.int .i64 d.cols, .int .i64 d.rows, .slice (some ⟨gb, gk, none⟩) d.R gc, .int .i64 d.row, .int .i64 d.col, .bool d.late, .slice hs ha hc, .slice ba d.nb bc] 26)).alloc (.cells #[.int .i64 0, .int .i64 0, .slice none 0 0, .int .i64 0, .int .i64 0, .bool false, .slice none 0 0, .slice none 0 0] 26) := ⟨_, rfl⟩
  have hb0 := sp_alloc w d (.slice (some ⟨gb, gk, none⟩) d.R gc) (.slice hs ha hc) (.slice ba d.nb bc)
  rw [← hV] at hb0
  have hW := (hb0.scr h).keepY (Y := fun q => X q ∨ q = w.heap.size + 1) (fun q hq => by
    have hV9 := lt_of_block hb0.z
    rcases hq with hq | hq
    · exact ⟨by have := (h.kept q hq).1; have := hb0.ext.size; omega, (h.kept q hq).2⟩
    · exact ⟨by omega, fun hw9 => by have := (h.foot hw9).2; omega⟩)
  have c2 : V.cell? ⟨w.heap.size, 2, none⟩ = some (.slice (some ⟨gb, gk, none⟩) d.R gc) := cells_of hb0.s 2 _ rfl
  have c3 : V.cell? ⟨w.heap.size, 3, none⟩ = some (.int .i64 (i : Int)) := by rw [← ei]; exact cells_of hb0.s 3 _ rfl
  have c4 : V.cell? ⟨w.heap.size, 4, none⟩ = some (.int .i64 d.col) := cells_of hb0.s 4 _ rfl
  have c5 : V.cell? ⟨w.heap.size, 5, none⟩ = some (.bool d.late) := cells_of hb0.s 5 _ rfl
  have r1 := hb0.ext.cell r0
  obtain ⟨⟨a1, a2⟩, a3, a4⟩ := Own2.cell (hrow.ext hb0.ext) hkC
  have HRow := hide (hrow.ext hb0.ext)
  have R1 : ∀ o o', ((w.alloc o).alloc o').cell? ⟨gb, gk + i, none⟩ = some (.slice (some ⟨g, 0, none⟩) (d.C i) cap) := fun o o' => (((Ext.refl w).alloc o).alloc o').cell r0
  have A1 : ∀ o o', ((w.alloc o).alloc o').cell? ⟨g, k * 2, none⟩ = some (.string (d.tx i k)) := fun o o' => (Own2.cell (hrow.ext (((Ext.refl w).alloc o).alloc o')) hkC).1.1
  have A2 : ∀ o o', ((w.alloc o).alloc o').frozen? ⟨g, k * 2, none⟩ = false := fun o o' => (Own2.cell (hrow.ext (((Ext.refl w).alloc o).alloc o')) hkC).1.2
  have A3 : ∀ o o', ((w.alloc o).alloc o').cell? ⟨g, k * 2 + 1, none⟩ = some (.bool (d.hf i k)) := fun o o' => (Own2.cell (hrow.ext (((Ext.refl w).alloc o).alloc o')) hkC).2.1
  have HRow0 := hide hrow
  have ng : ¬ g = w.heap.size := by have := (hrow.lt g rfl).2; omega
  have ng1 : ¬ g = w.heap.size + 1 := by have := (hrow.lt g rfl).2; omega
  have HVV := hide hV
  have HSP := hide hb0
  have HW := hide hW
  have H := hide h
  have HG := hide hg
  have HGB := hide (hb0.ext.kept hgb)
  have HGA := hide (hgA i hiR)
  have HRr := hide hk.R
  clear h hk hg hgb hgA hV hb0 hW hrow r0
  unfold scrV
  rw [hl]
  rw [hl] at hkm
  rw [if_neg (by simp)] at hkm
  have ecol : d.col = (k : Int) + 1 := by omega
  rw [ecol] at wm
  have wk0 : IntKind.i64.wrap (k : Int) = (k : Int) := by rw [IntKind.wrap_i64] <;> omega
  cases hh : d.hf i k with
  | true =>
    rw [hh] at A3
    have hk1 := (hhk hh).2.1
    have b5 : (0 : Int) < (k : Int) := by omega
    have b6 : (k : Int) - 1 < (d.C i : Int) := by omega
    have b7 : (0 : Int) ≤ (k : Int) - 1 := by omega
    have t7 : ((k : Int) - 1).toNat = k - 1 := by omega
    obtain ⟨⟨d1, d2⟩, d3, d4⟩ := Own2.cell (unhide HRow) (j := k - 1) (by omega)
    have D1 : ∀ o o', ((w.alloc o).alloc o').cell? ⟨g, (k - 1) * 2, none⟩ = some (.string (d.tx i (k - 1))) := fun o o' => (Own2.cell ((unhide HRow0).ext (((Ext.refl w).alloc o).alloc o')) (j := k - 1) (by omega)).1.1
    have D2 : ∀ o o', ((w.alloc o).alloc o').frozen? ⟨g, (k - 1) * 2, none⟩ = false := fun o o' => (Own2.cell ((unhide HRow0).ext (((Ext.refl w).alloc o).alloc o')) (j := k - 1) (by omega)).1.2
    have em2 : d.mkAt2 = (k - 1) := by unfold SD.mkAt2; rw [ei, ek, Int.toNat_natCast, Int.toNat_natCast, if_pos hh]
    by_cases ht : (d.tx i (k - 1)).toList = []
    · have HEM : Hid (d.mark t = d) := hide (by unfold SD.mark; rw [if_neg hm, em2, ei, Int.toNat_natCast, if_neg (fun x => x.1 ht)])
      have HSB := hide (unhide HSP).s
      have HSZ := hide (unhide HSP).z
      have HEi := hide ei
      rw [ecol, ei]
      have HEk := hide ek
      have HEm := hide em2
      have HHl := hide hl
      have HKM := hide ecol
      clear ei ek em2 hkm hl
      try clear ecol
      clear c2 c3 c4 c5 r1 a1 a2 a3 a4 HVV
      skip
      go_enter Tryz.func99, Tryz.ntmps99
      go_wp2_with fail
      refine bodyPost_ret (v := .agg #[.int .i64 d.cols, .int .i64 d.rows, .slice (some ⟨gb, gk, none⟩) d.R gc, .int .i64 (i : Int), .int .i64 ((k : Int) + 1), .bool false, .slice hs ha hc, .slice ba d.nb bc]) (by simp [results, Tryz.results99, go_sem]) rfl ⟨_, rv, _, ?_, by rw [unhide HEM]; exact (unhide H).ext (((Ext.refl w).alloc _).alloc _), Fr.of_ext (((Ext.refl w).alloc _).alloc _)⟩
      rw [unhide HEM]
      unfold scrV
      rw [unhide HHl, unhide HKM, unhide HEi]
    · by_cases hz : (d.tx i (k - 1)).size ≤ 6000
      · have HEM : Hid (d.mark t = d.setT i (k - 1) (d.tx i (k - 1) ++ t)) := hide (by unfold SD.mark; rw [if_neg hm, em2, ei, Int.toNat_natCast, if_pos ⟨ht, hz⟩])
        have hset := (unhide HW).setT1 i (k - 1) g cap hiR (by omega) (unhide HG) (d.tx i (k - 1) ++ t)
        have HSB := hide hset.1.box
        have HSZ := hide (hset.2.kept (unhide HSP).z (fun e9 => ((unhide HW).kept _ (.inr rfl)).2 (.inr (.inl ⟨i, hiR, e9⟩))))
        have HSet := hide hset
        clear hset
        have hte : (d.tx i (k - 1)).toList.isEmpty = false := by cases e9 : (d.tx i (k - 1)).toList with | nil => exact absurd e9 ht | cons _ _ => rfl
        have hzi : ((d.tx i (k - 1)).size : Int) ≤ 6000 := by omega
        have hov : ¬ 9223372036854775807 < (d.tx i (k - 1)).size + t.size := by omega
        have p2 := cells_of (unhide HSet).1.box 2 _ rfl
        have p3 : (V.setCell ⟨g, (k - 1) * 2, none⟩ (.string (d.tx i (k - 1) ++ t))).cell? ⟨w.heap.size, 3, none⟩ = some (.int .i64 (i : Int)) := by rw [← ei]; exact cells_of (unhide HSet).1.box 3 _ rfl
        have p4 : (V.setCell ⟨g, (k - 1) * 2, none⟩ (.string (d.tx i (k - 1) ++ t))).cell? ⟨gb, gk + i, none⟩ = some (.slice (some ⟨g, 0, none⟩) (d.C i) cap) := by rw [← unhide HG]; exact cells_of ((unhide HSet).2.kept (unhide HGB) (fun e9 => (unhide HW).rowGrid hiR e9 rfl)) (gk + i) _ (unhide HGA)
        have HEi := hide ei
        rw [ecol, ei]
        rw [hl, ecol, ei] at HVV
        have HEk := hide ek
        have HEm := hide em2
        have HHl := hide hl
        have HKM := hide ecol
        clear ei ek em2 hkm hl
        try clear ecol
        clear c4 c5 a3 a4
        skip
        go_enter Tryz.func99, Tryz.ntmps99
        go_wp2_with fail
        rw [← unhide HVV]
        clear HVV R1 A1 A2 A3
        try clear D1 D2
        have x1 : (i : Int) < d.rows := by have := unhide HRr; omega
        have x2 : (k : Int) < d.cols := by omega
        have x3 : (k : Int) - 1 < d.cols := by omega
        refine wp_region_held_drew (S := fun W => W.cell? ⟨w.heap.size, 2, none⟩ = some (.slice (some ⟨gb, gk, none⟩) d.R gc) ∧ W.cell? ⟨w.heap.size, 3, none⟩ = some (.int .i64 (i : Int)) ∧ W.cell? ⟨gb, gk + i, none⟩ = some (.slice (some ⟨g, 0, none⟩) (d.C i) cap)) (by kernel_rfl) ⟨c2, c3, r1⟩ (fun hHeld => ?_)
        refine wpAnyH_take (i := 0) (v := ?_) rfl (by kernel_rfl) (by kernel_rfl) (by kernel_rfl) (fun _ _ _ h => h) (Or.inl ⟨by rfl, ?_⟩) (by assumption) ?_
        rotate_left
        · intro w' hSw; obtain ⟨e1, e2, e3⟩ := hSw; go_simp <;> with_reducible rfl
        simp only [Act.put, qA, qB, qC, qD, qE, qF]
        refine wpAnyH_take (i := 1) (v := ?_) rfl (by kernel_rfl) (by kernel_rfl) (by kernel_rfl) (fun _ _ _ h => h) (Or.inl ⟨by rfl, ?_⟩) (by assumption) ?_
        rotate_left
        · intro w' hSw; obtain ⟨e1, e2, e3⟩ := hSw; go_simp <;> with_reducible rfl
        simp only [Act.put, qA, qB, qC, qD, qE, qF]
        refine wpAnyH_take (i := 2) (v := ?_) rfl (by kernel_rfl) (by kernel_rfl) (by kernel_rfl) (fun _ _ _ h => h) (Or.inl ⟨by rfl, ?_⟩) (by assumption) ?_
        rotate_left
        · intro w' hSw; obtain ⟨e1, e2, e3⟩ := hSw; go_simp <;> with_reducible rfl
        simp only [Act.put, qA, qB, qC, qD, qE, qF]
        refine wpAnyH_take (i := 3) (v := ?_) rfl (by kernel_rfl) (by kernel_rfl) (by kernel_rfl) (fun _ _ _ h => h) (Or.inl ⟨by rfl, ?_⟩) (by assumption) ?_
        rotate_left
        · intro w' hSw; obtain ⟨e1, e2, e3⟩ := hSw; go_simp <;> with_reducible rfl
        simp only [Act.put, qA, qB, qC, qD, qE, qF]
        refine wpAnyH_take (i := 4) (v := ?_) rfl (by kernel_rfl) (by kernel_rfl) (by kernel_rfl) (fun _ _ _ h => h) (Or.inl ⟨by rfl, ?_⟩) (by assumption) ?_
        rotate_left
        · intro w' hSw; obtain ⟨e1, e2, e3⟩ := hSw; go_simp <;> with_reducible rfl
        simp only [Act.put, qA, qB, qC, qD, qE, qF]
        refine wpAnyH_take (i := 5) (v := ?_) rfl (by kernel_rfl) (by kernel_rfl) (by kernel_rfl) (fun _ _ _ h => h) (Or.inl ⟨by rfl, ?_⟩) (by assumption) ?_
        rotate_left
        · intro w' hSw; obtain ⟨e1, e2, e3⟩ := hSw; go_simp <;> with_reducible rfl
        simp only [Act.put, qA, qB, qC, qD, qE, qF]
        refine wpAnyH_take (i := 6) (v := ?_) rfl (by kernel_rfl) (by kernel_rfl) (by kernel_rfl) (fun _ _ _ h => h) (Or.inl ⟨by rfl, ?_⟩) (by assumption) ?_
        rotate_left
        · intro w' hSw; obtain ⟨e1, e2, e3⟩ := hSw; go_simp <;> with_reducible rfl
        simp only [Act.put, qA, qB, qC, qD, qE, qF]
        refine wpAnyH_take (i := 7) (v := ?_) rfl (by kernel_rfl) (by kernel_rfl) (by kernel_rfl) (fun _ _ _ h => h) (Or.inl ⟨by rfl, ?_⟩) (by assumption) ?_
        rotate_left
        · intro w' hSw; obtain ⟨e1, e2, e3⟩ := hSw; go_simp <;> with_reducible rfl
        simp only [Act.put, qA, qB, qC, qD, qE, qF]
        refine wpAnyH_take (i := 8) (v := ?_) rfl (by kernel_rfl) (by kernel_rfl) (by kernel_rfl) (fun _ _ _ h => h) (Or.inl ⟨by rfl, ?_⟩) (by assumption) ?_
        rotate_left
        · intro w' hSw; obtain ⟨e1, e2, e3⟩ := hSw; go_simp <;> with_reducible rfl
        simp only [Act.put, qA, qB, qC, qD, qE, qF]
        refine wpAnyH_take (i := 9) (v := ?_) rfl (by kernel_rfl) (by kernel_rfl) (by kernel_rfl) (fun _ _ _ h => h) (Or.inl ⟨by rfl, ?_⟩) (by assumption) ?_
        rotate_left
        · intro w' hSw; obtain ⟨e1, e2, e3⟩ := hSw; go_simp <;> with_reducible rfl
        simp only [Act.put, qA, qB, qC, qD, qE, qF]
        refine wpAnyH_take (i := 10) (v := ?_) rfl (by kernel_rfl) (by kernel_rfl) (by kernel_rfl) (fun _ _ _ h => h) (Or.inl ⟨by rfl, ?_⟩) (by assumption) ?_
        rotate_left
        · intro w' hSw; obtain ⟨e1, e2, e3⟩ := hSw; go_simp <;> with_reducible rfl
        simp only [Act.put, qA, qB, qC, qD, qE, qF]
        refine wpAnyH_take (i := 11) (v := ?_) rfl (by kernel_rfl) (by kernel_rfl) (by kernel_rfl) (fun _ _ _ h => h) (Or.inl ⟨by rfl, ?_⟩) (by assumption) ?_
        rotate_left
        · intro w' hSw; obtain ⟨e1, e2, e3⟩ := hSw; go_simp <;> with_reducible rfl
        simp only [Act.put, qA, qB, qC, qD, qE, qF]
        refine wpAnyH_take (i := 12) (v := ?_) rfl (by kernel_rfl) (by kernel_rfl) (by kernel_rfl) (fun _ _ _ h => h) (Or.inl ⟨by rfl, ?_⟩) (by assumption) ?_
        rotate_left
        · intro w' hSw; obtain ⟨e1, e2, e3⟩ := hSw; go_simp <;> with_reducible rfl
        simp only [Act.put, qA, qB, qC, qD, qE, qF]
        refine wpAnyH_take (i := 13) (v := ?_) rfl (by kernel_rfl) (by kernel_rfl) (by kernel_rfl) (fun _ _ _ h => h) (Or.inl ⟨by rfl, ?_⟩) (by assumption) ?_
        rotate_left
        · intro w' hSw; obtain ⟨e1, e2, e3⟩ := hSw; go_simp <;> with_reducible rfl
        simp only [Act.put, qA, qB, qC, qD, qE, qF]
        refine wpAnyH_take (i := 14) (v := ?_) rfl (by kernel_rfl) (by kernel_rfl) (by kernel_rfl) (fun _ _ _ h => h) (Or.inl ⟨by rfl, ?_⟩) (by assumption) ?_
        rotate_left
        · intro w' hSw; obtain ⟨e1, e2, e3⟩ := hSw; go_simp <;> with_reducible rfl
        simp only [Act.put, qA, qB, qC, qD, qE, qF]
        refine wpAnyH_take (i := 15) (v := ?_) rfl (by kernel_rfl) (by kernel_rfl) (by kernel_rfl) (fun _ _ _ h => h) (Or.inl ⟨by rfl, ?_⟩) (by assumption) ?_
        rotate_left
        · intro w' hSw; obtain ⟨e1, e2, e3⟩ := hSw; go_simp <;> with_reducible rfl
        simp only [Act.put, qA, qB, qC, qD, qE, qF]
        refine wpAnyH_take (i := 17) (v := ?_) rfl (by kernel_rfl) (by kernel_rfl) (by kernel_rfl) (fun _ _ _ h => h) (Or.inl ⟨by rfl, ?_⟩) (by assumption) ?_
        rotate_left
        · intro w' hSw; obtain ⟨e1, e2, e3⟩ := hSw; go_simp <;> with_reducible rfl
        simp only [Act.put, qA, qB, qC, qD, qE, qF]
        refine wpAnyH_ready (rs := [16]) (by kernel_rfl) (by simp) ?_
        refine AllReadyH.cons rfl (fun K hK => ?_) AllReadyH.nil
        go_simp
        refine hK.out _ _ ⟨c2, c3, r1⟩ (fun hHeld => ?_)
        clear hK K
        refine wpAnyH_take (i := 18) (v := ?_) rfl (by kernel_rfl) (by kernel_rfl) (by kernel_rfl) (fun _ _ _ h => h) (Or.inl ⟨by rfl, ?_⟩) (by assumption) ?_
        rotate_left
        · intro w' hSw; obtain ⟨e1, e2, e3⟩ := hSw; go_simp <;> with_reducible rfl
        simp only [Act.put, qA, qB, qC, qD, qE, qF]
        refine wpAnyH_take (i := 19) (v := ?_) rfl (by kernel_rfl) (by kernel_rfl) (by kernel_rfl) (fun _ _ _ h => h) (Or.inl ⟨by rfl, ?_⟩) (by assumption) ?_
        rotate_left
        · intro w' hSw; obtain ⟨e1, e2, e3⟩ := hSw; go_simp <;> with_reducible rfl
        simp only [Act.put, qA, qB, qC, qD, qE, qF]
        refine wpAnyH_take (i := 20) (v := ?_) rfl (by kernel_rfl) (by kernel_rfl) (by kernel_rfl) (fun _ _ _ h => h) (Or.inl ⟨by rfl, ?_⟩) (by assumption) ?_
        rotate_left
        · intro w' hSw; obtain ⟨e1, e2, e3⟩ := hSw; go_simp <;> with_reducible rfl
        simp only [Act.put, qA, qB, qC, qD, qE, qF]
        refine wpAnyH_ready (rs := [21]) (by kernel_rfl) (by simp) ?_
        refine AllReadyH.cons rfl (fun K hK => ?_) AllReadyH.nil
        go_simp
        refine hK.out _ _ ⟨p2, p3, p4⟩ (fun hHeld => ?_)
        clear hK K
        refine wpAnyH_done (by kernel_rfl) ?_ _
        clear c2 c3 r1 p2 p3 p4
        go_wp2_with (first | (refine wpList_load_blk rfl 26 _ rfl w.heap.size rfl _ _ _ _ (unhide HSB) Tryz.underlying26 rfl infoScr8 ?_) | (refine wpList_store_blk rfl 26 _ _ rfl rfl (w.heap.size + 1) rfl _ _ _ rfl (unhide HSZ) infoScr8 rfl (by simp [Value.oneCell']) ?_; intro X9 HX9 hX9; have HXB := hide HX9; have HXF := hide hX9; clear HX9 hX9))
        have v0 := cells_of (unhide HXB) 0 _ rfl
        have v1 := cells_of (unhide HXB) 1 _ rfl
        have v2 := cells_of (unhide HXB) 2 _ rfl
        have v3 := cells_of (unhide HXB) 3 _ rfl
        have v4 := cells_of (unhide HXB) 4 _ rfl
        have v5 := cells_of (unhide HXB) 5 _ rfl
        have v6 := cells_of (unhide HXB) 6 _ rfl
        have v7 := cells_of (unhide HXB) 7 _ rfl
        have hset := unhide HSet
        have HXF' := hide (Fr.tr (S := fun q => q = w.heap.size + 1) (Fr.of_ext (Ext.refl (V.setCell ⟨g, (k - 1) * 2, none⟩ (.string (d.tx i (k - 1) ++ t)))).drew) (unhide HXF))
        have hV9 := hset.1.toV.fr (unhide HXF') (fun g9 hg9 e9 => (hset.1.kept g9 (.inr e9)).2 hg9)
        refine bodyPost_ret (v := scrV d (.slice (some ⟨gb, gk, none⟩) d.R gc) (.slice hs ha hc) (.slice ba d.nb bc)) (by unfold scrV; simp [results, Tryz.results99, go_sem, v0, v1, v2, v3, v4, v5, v6, v7]; exact ⟨rfl, rfl, rfl, rfl, rfl⟩) rfl ⟨_, rv, _, by rw [unhide HEM]; rfl, by rw [unhide HEM]; exact hV9.keep (fun q hq => .inl hq), ?_⟩
        have fr1 : FrV base X w (V.setCell ⟨g, (k - 1) * 2, none⟩ (.string (d.tx i (k - 1) ++ t))) := Fr.mono (FrW.toV ((unhide HW).rowFr i hiR hset.2) (unhide HSP).ext (Nat.le_refl _)) (fun q hq => ⟨hq.1, fun hx => hq.2 (.inl hx)⟩)
        exact Fr.tr fr1 ((unhide HXF').mono (fun q hq => ⟨by have := (unhide H).top; omega, fun hx => by have := ((unhide H).kept q hx).1; omega⟩))
      · have HEM : Hid (d.mark t = d) := hide (by unfold SD.mark; rw [if_neg hm, em2, ei, Int.toNat_natCast, if_neg (fun x => hz x.2)])
        have HSB := hide (unhide HSP).s
        have HSZ := hide (unhide HSP).z
        have HEi := hide ei
        rw [ecol, ei]
        have HEk := hide ek
        have HEm := hide em2
        have HHl := hide hl
        have HKM := hide ecol
        clear ei ek em2 hkm hl
        try clear ecol
        clear c2 c3 c4 c5 r1 a1 a2 a3 a4 HVV
        skip
        go_enter Tryz.func99, Tryz.ntmps99
        go_wp2_with fail
        refine bodyPost_ret (v := .agg #[.int .i64 d.cols, .int .i64 d.rows, .slice (some ⟨gb, gk, none⟩) d.R gc, .int .i64 (i : Int), .int .i64 ((k : Int) + 1), .bool false, .slice hs ha hc, .slice ba d.nb bc]) (by simp [results, Tryz.results99, go_sem]) rfl ⟨_, rv, _, ?_, by rw [unhide HEM]; exact (unhide H).ext (((Ext.refl w).alloc _).alloc _), Fr.of_ext (((Ext.refl w).alloc _).alloc _)⟩
        rw [unhide HEM]
        unfold scrV
        rw [unhide HHl, unhide HKM, unhide HEi]
  | false =>
    rw [hh] at A3
    have em2 : d.mkAt2 = k := by unfold SD.mkAt2; rw [ei, ek, Int.toNat_natCast, Int.toNat_natCast, if_neg (by rw [hh]; simp)]
    by_cases ht : (d.tx i k).toList = []
    · have HEM : Hid (d.mark t = d) := hide (by unfold SD.mark; rw [if_neg hm, em2, ei, Int.toNat_natCast, if_neg (fun x => x.1 ht)])
      have HSB := hide (unhide HSP).s
      have HSZ := hide (unhide HSP).z
      by_cases h0k : (0 : Int) < (k : Int)
      · have HEi := hide ei
        rw [ecol, ei]
        have HEk := hide ek
        have HEm := hide em2
        have HHl := hide hl
        have HKM := hide ecol
        clear ei ek em2 hkm hl
        try clear ecol
        clear c2 c3 c4 c5 r1 a1 a2 a3 a4 HVV
        skip
        go_enter Tryz.func99, Tryz.ntmps99
        go_wp2_with fail
        refine bodyPost_ret (v := .agg #[.int .i64 d.cols, .int .i64 d.rows, .slice (some ⟨gb, gk, none⟩) d.R gc, .int .i64 (i : Int), .int .i64 ((k : Int) + 1), .bool false, .slice hs ha hc, .slice ba d.nb bc]) (by simp [results, Tryz.results99, go_sem]) rfl ⟨_, rv, _, ?_, by rw [unhide HEM]; exact (unhide H).ext (((Ext.refl w).alloc _).alloc _), Fr.of_ext (((Ext.refl w).alloc _).alloc _)⟩
        rw [unhide HEM]
        unfold scrV
        rw [unhide HHl, unhide HKM, unhide HEi]
      · have HEi := hide ei
        rw [ecol, ei]
        have HEk := hide ek
        have HEm := hide em2
        have HHl := hide hl
        have HKM := hide ecol
        clear ei ek em2 hkm hl
        try clear ecol
        clear c2 c3 c4 c5 r1 a1 a2 a3 a4 HVV
        skip
        go_enter Tryz.func99, Tryz.ntmps99
        go_wp2_with fail
        refine bodyPost_ret (v := .agg #[.int .i64 d.cols, .int .i64 d.rows, .slice (some ⟨gb, gk, none⟩) d.R gc, .int .i64 (i : Int), .int .i64 ((k : Int) + 1), .bool false, .slice hs ha hc, .slice ba d.nb bc]) (by simp [results, Tryz.results99, go_sem]) rfl ⟨_, rv, _, ?_, by rw [unhide HEM]; exact (unhide H).ext (((Ext.refl w).alloc _).alloc _), Fr.of_ext (((Ext.refl w).alloc _).alloc _)⟩
        rw [unhide HEM]
        unfold scrV
        rw [unhide HHl, unhide HKM, unhide HEi]
    · by_cases hz : (d.tx i k).size ≤ 6000
      · have HEM : Hid (d.mark t = d.setT i k (d.tx i k ++ t)) := hide (by unfold SD.mark; rw [if_neg hm, em2, ei, Int.toNat_natCast, if_pos ⟨ht, hz⟩])
        by_cases h0k : (0 : Int) < (k : Int)
        · have hset := (unhide HW).setT1 i k g cap hiR (by omega) (unhide HG) (d.tx i k ++ t)
          have HSB := hide hset.1.box
          have HSZ := hide (hset.2.kept (unhide HSP).z (fun e9 => ((unhide HW).kept _ (.inr rfl)).2 (.inr (.inl ⟨i, hiR, e9⟩))))
          have HSet := hide hset
          clear hset
          have hte : (d.tx i k).toList.isEmpty = false := by cases e9 : (d.tx i k).toList with | nil => exact absurd e9 ht | cons _ _ => rfl
          have hzi : ((d.tx i k).size : Int) ≤ 6000 := by omega
          have hov : ¬ 9223372036854775807 < (d.tx i k).size + t.size := by omega
          have p2 := cells_of (unhide HSet).1.box 2 _ rfl
          have p3 : (V.setCell ⟨g, k * 2, none⟩ (.string (d.tx i k ++ t))).cell? ⟨w.heap.size, 3, none⟩ = some (.int .i64 (i : Int)) := by rw [← ei]; exact cells_of (unhide HSet).1.box 3 _ rfl
          have p4 : (V.setCell ⟨g, k * 2, none⟩ (.string (d.tx i k ++ t))).cell? ⟨gb, gk + i, none⟩ = some (.slice (some ⟨g, 0, none⟩) (d.C i) cap) := by rw [← unhide HG]; exact cells_of ((unhide HSet).2.kept (unhide HGB) (fun e9 => (unhide HW).rowGrid hiR e9 rfl)) (gk + i) _ (unhide HGA)
          have HEi := hide ei
          rw [ecol, ei]
          rw [hl, ecol, ei] at HVV
          have HEk := hide ek
          have HEm := hide em2
          have HHl := hide hl
          have HKM := hide ecol
          clear ei ek em2 hkm hl
          try clear ecol
          clear c4 c5 a3 a4
          skip
          go_enter Tryz.func99, Tryz.ntmps99
          go_wp2_with fail
          rw [← unhide HVV]
          clear HVV R1 A1 A2 A3
          try clear D1 D2
          have x1 : (i : Int) < d.rows := by have := unhide HRr; omega
          have x2 : (k : Int) < d.cols := by omega
          have x3 : (k : Int) - 1 < d.cols := by omega
          refine wp_region_held_drew (S := fun W => W.cell? ⟨w.heap.size, 2, none⟩ = some (.slice (some ⟨gb, gk, none⟩) d.R gc) ∧ W.cell? ⟨w.heap.size, 3, none⟩ = some (.int .i64 (i : Int)) ∧ W.cell? ⟨gb, gk + i, none⟩ = some (.slice (some ⟨g, 0, none⟩) (d.C i) cap)) (by kernel_rfl) ⟨c2, c3, r1⟩ (fun hHeld => ?_)
          refine wpAnyH_take (i := 0) (v := ?_) rfl (by kernel_rfl) (by kernel_rfl) (by kernel_rfl) (fun _ _ _ h => h) (Or.inl ⟨by rfl, ?_⟩) (by assumption) ?_
          rotate_left
          · intro w' hSw; obtain ⟨e1, e2, e3⟩ := hSw; go_simp <;> with_reducible rfl
          simp only [Act.put, qA, qB, qC, qD, qE, qF]
          refine wpAnyH_take (i := 1) (v := ?_) rfl (by kernel_rfl) (by kernel_rfl) (by kernel_rfl) (fun _ _ _ h => h) (Or.inl ⟨by rfl, ?_⟩) (by assumption) ?_
          rotate_left
          · intro w' hSw; obtain ⟨e1, e2, e3⟩ := hSw; go_simp <;> with_reducible rfl
          simp only [Act.put, qA, qB, qC, qD, qE, qF]
          refine wpAnyH_take (i := 2) (v := ?_) rfl (by kernel_rfl) (by kernel_rfl) (by kernel_rfl) (fun _ _ _ h => h) (Or.inl ⟨by rfl, ?_⟩) (by assumption) ?_
          rotate_left
          · intro w' hSw; obtain ⟨e1, e2, e3⟩ := hSw; go_simp <;> with_reducible rfl
          simp only [Act.put, qA, qB, qC, qD, qE, qF]
          refine wpAnyH_take (i := 3) (v := ?_) rfl (by kernel_rfl) (by kernel_rfl) (by kernel_rfl) (fun _ _ _ h => h) (Or.inl ⟨by rfl, ?_⟩) (by assumption) ?_
          rotate_left
          · intro w' hSw; obtain ⟨e1, e2, e3⟩ := hSw; go_simp <;> with_reducible rfl
          simp only [Act.put, qA, qB, qC, qD, qE, qF]
          refine wpAnyH_take (i := 4) (v := ?_) rfl (by kernel_rfl) (by kernel_rfl) (by kernel_rfl) (fun _ _ _ h => h) (Or.inl ⟨by rfl, ?_⟩) (by assumption) ?_
          rotate_left
          · intro w' hSw; obtain ⟨e1, e2, e3⟩ := hSw; go_simp <;> with_reducible rfl
          simp only [Act.put, qA, qB, qC, qD, qE, qF]
          refine wpAnyH_take (i := 5) (v := ?_) rfl (by kernel_rfl) (by kernel_rfl) (by kernel_rfl) (fun _ _ _ h => h) (Or.inl ⟨by rfl, ?_⟩) (by assumption) ?_
          rotate_left
          · intro w' hSw; obtain ⟨e1, e2, e3⟩ := hSw; go_simp <;> with_reducible rfl
          simp only [Act.put, qA, qB, qC, qD, qE, qF]
          refine wpAnyH_take (i := 6) (v := ?_) rfl (by kernel_rfl) (by kernel_rfl) (by kernel_rfl) (fun _ _ _ h => h) (Or.inl ⟨by rfl, ?_⟩) (by assumption) ?_
          rotate_left
          · intro w' hSw; obtain ⟨e1, e2, e3⟩ := hSw; go_simp <;> with_reducible rfl
          simp only [Act.put, qA, qB, qC, qD, qE, qF]
          refine wpAnyH_take (i := 7) (v := ?_) rfl (by kernel_rfl) (by kernel_rfl) (by kernel_rfl) (fun _ _ _ h => h) (Or.inl ⟨by rfl, ?_⟩) (by assumption) ?_
          rotate_left
          · intro w' hSw; obtain ⟨e1, e2, e3⟩ := hSw; go_simp <;> with_reducible rfl
          simp only [Act.put, qA, qB, qC, qD, qE, qF]
          refine wpAnyH_take (i := 8) (v := ?_) rfl (by kernel_rfl) (by kernel_rfl) (by kernel_rfl) (fun _ _ _ h => h) (Or.inl ⟨by rfl, ?_⟩) (by assumption) ?_
          rotate_left
          · intro w' hSw; obtain ⟨e1, e2, e3⟩ := hSw; go_simp <;> with_reducible rfl
          simp only [Act.put, qA, qB, qC, qD, qE, qF]
          refine wpAnyH_take (i := 9) (v := ?_) rfl (by kernel_rfl) (by kernel_rfl) (by kernel_rfl) (fun _ _ _ h => h) (Or.inl ⟨by rfl, ?_⟩) (by assumption) ?_
          rotate_left
          · intro w' hSw; obtain ⟨e1, e2, e3⟩ := hSw; go_simp <;> with_reducible rfl
          simp only [Act.put, qA, qB, qC, qD, qE, qF]
          refine wpAnyH_take (i := 10) (v := ?_) rfl (by kernel_rfl) (by kernel_rfl) (by kernel_rfl) (fun _ _ _ h => h) (Or.inl ⟨by rfl, ?_⟩) (by assumption) ?_
          rotate_left
          · intro w' hSw; obtain ⟨e1, e2, e3⟩ := hSw; go_simp <;> with_reducible rfl
          simp only [Act.put, qA, qB, qC, qD, qE, qF]
          refine wpAnyH_take (i := 11) (v := ?_) rfl (by kernel_rfl) (by kernel_rfl) (by kernel_rfl) (fun _ _ _ h => h) (Or.inl ⟨by rfl, ?_⟩) (by assumption) ?_
          rotate_left
          · intro w' hSw; obtain ⟨e1, e2, e3⟩ := hSw; go_simp <;> with_reducible rfl
          simp only [Act.put, qA, qB, qC, qD, qE, qF]
          refine wpAnyH_take (i := 12) (v := ?_) rfl (by kernel_rfl) (by kernel_rfl) (by kernel_rfl) (fun _ _ _ h => h) (Or.inl ⟨by rfl, ?_⟩) (by assumption) ?_
          rotate_left
          · intro w' hSw; obtain ⟨e1, e2, e3⟩ := hSw; go_simp <;> with_reducible rfl
          simp only [Act.put, qA, qB, qC, qD, qE, qF]
          refine wpAnyH_take (i := 13) (v := ?_) rfl (by kernel_rfl) (by kernel_rfl) (by kernel_rfl) (fun _ _ _ h => h) (Or.inl ⟨by rfl, ?_⟩) (by assumption) ?_
          rotate_left
          · intro w' hSw; obtain ⟨e1, e2, e3⟩ := hSw; go_simp <;> with_reducible rfl
          simp only [Act.put, qA, qB, qC, qD, qE, qF]
          refine wpAnyH_take (i := 14) (v := ?_) rfl (by kernel_rfl) (by kernel_rfl) (by kernel_rfl) (fun _ _ _ h => h) (Or.inl ⟨by rfl, ?_⟩) (by assumption) ?_
          rotate_left
          · intro w' hSw; obtain ⟨e1, e2, e3⟩ := hSw; go_simp <;> with_reducible rfl
          simp only [Act.put, qA, qB, qC, qD, qE, qF]
          refine wpAnyH_take (i := 15) (v := ?_) rfl (by kernel_rfl) (by kernel_rfl) (by kernel_rfl) (fun _ _ _ h => h) (Or.inl ⟨by rfl, ?_⟩) (by assumption) ?_
          rotate_left
          · intro w' hSw; obtain ⟨e1, e2, e3⟩ := hSw; go_simp <;> with_reducible rfl
          simp only [Act.put, qA, qB, qC, qD, qE, qF]
          refine wpAnyH_take (i := 17) (v := ?_) rfl (by kernel_rfl) (by kernel_rfl) (by kernel_rfl) (fun _ _ _ h => h) (Or.inl ⟨by rfl, ?_⟩) (by assumption) ?_
          rotate_left
          · intro w' hSw; obtain ⟨e1, e2, e3⟩ := hSw; go_simp <;> with_reducible rfl
          simp only [Act.put, qA, qB, qC, qD, qE, qF]
          refine wpAnyH_ready (rs := [16]) (by kernel_rfl) (by simp) ?_
          refine AllReadyH.cons rfl (fun K hK => ?_) AllReadyH.nil
          go_simp
          refine hK.out _ _ ⟨c2, c3, r1⟩ (fun hHeld => ?_)
          clear hK K
          refine wpAnyH_take (i := 18) (v := ?_) rfl (by kernel_rfl) (by kernel_rfl) (by kernel_rfl) (fun _ _ _ h => h) (Or.inl ⟨by rfl, ?_⟩) (by assumption) ?_
          rotate_left
          · intro w' hSw; obtain ⟨e1, e2, e3⟩ := hSw; go_simp <;> with_reducible rfl
          simp only [Act.put, qA, qB, qC, qD, qE, qF]
          refine wpAnyH_take (i := 19) (v := ?_) rfl (by kernel_rfl) (by kernel_rfl) (by kernel_rfl) (fun _ _ _ h => h) (Or.inl ⟨by rfl, ?_⟩) (by assumption) ?_
          rotate_left
          · intro w' hSw; obtain ⟨e1, e2, e3⟩ := hSw; go_simp <;> with_reducible rfl
          simp only [Act.put, qA, qB, qC, qD, qE, qF]
          refine wpAnyH_take (i := 20) (v := ?_) rfl (by kernel_rfl) (by kernel_rfl) (by kernel_rfl) (fun _ _ _ h => h) (Or.inl ⟨by rfl, ?_⟩) (by assumption) ?_
          rotate_left
          · intro w' hSw; obtain ⟨e1, e2, e3⟩ := hSw; go_simp <;> with_reducible rfl
          simp only [Act.put, qA, qB, qC, qD, qE, qF]
          refine wpAnyH_ready (rs := [21]) (by kernel_rfl) (by simp) ?_
          refine AllReadyH.cons rfl (fun K hK => ?_) AllReadyH.nil
          go_simp
          refine hK.out _ _ ⟨p2, p3, p4⟩ (fun hHeld => ?_)
          clear hK K
          refine wpAnyH_done (by kernel_rfl) ?_ _
          clear c2 c3 r1 p2 p3 p4
          go_wp2_with (first | (refine wpList_load_blk rfl 26 _ rfl w.heap.size rfl _ _ _ _ (unhide HSB) Tryz.underlying26 rfl infoScr8 ?_) | (refine wpList_store_blk rfl 26 _ _ rfl rfl (w.heap.size + 1) rfl _ _ _ rfl (unhide HSZ) infoScr8 rfl (by simp [Value.oneCell']) ?_; intro X9 HX9 hX9; have HXB := hide HX9; have HXF := hide hX9; clear HX9 hX9))
          have v0 := cells_of (unhide HXB) 0 _ rfl
          have v1 := cells_of (unhide HXB) 1 _ rfl
          have v2 := cells_of (unhide HXB) 2 _ rfl
          have v3 := cells_of (unhide HXB) 3 _ rfl
          have v4 := cells_of (unhide HXB) 4 _ rfl
          have v5 := cells_of (unhide HXB) 5 _ rfl
          have v6 := cells_of (unhide HXB) 6 _ rfl
          have v7 := cells_of (unhide HXB) 7 _ rfl
          have hset := unhide HSet
          have HXF' := hide (Fr.tr (S := fun q => q = w.heap.size + 1) (Fr.of_ext (Ext.refl (V.setCell ⟨g, k * 2, none⟩ (.string (d.tx i k ++ t)))).drew) (unhide HXF))
          have hV9 := hset.1.toV.fr (unhide HXF') (fun g9 hg9 e9 => (hset.1.kept g9 (.inr e9)).2 hg9)
          refine bodyPost_ret (v := scrV d (.slice (some ⟨gb, gk, none⟩) d.R gc) (.slice hs ha hc) (.slice ba d.nb bc)) (by unfold scrV; simp [results, Tryz.results99, go_sem, v0, v1, v2, v3, v4, v5, v6, v7]; exact ⟨rfl, rfl, rfl, rfl, rfl⟩) rfl ⟨_, rv, _, by rw [unhide HEM]; rfl, by rw [unhide HEM]; exact hV9.keep (fun q hq => .inl hq), ?_⟩
          have fr1 : FrV base X w (V.setCell ⟨g, k * 2, none⟩ (.string (d.tx i k ++ t))) := Fr.mono (FrW.toV ((unhide HW).rowFr i hiR hset.2) (unhide HSP).ext (Nat.le_refl _)) (fun q hq => ⟨hq.1, fun hx => hq.2 (.inl hx)⟩)
          exact Fr.tr fr1 ((unhide HXF').mono (fun q hq => ⟨by have := (unhide H).top; omega, fun hx => by have := ((unhide H).kept q hx).1; omega⟩))
        · have hset := (unhide HW).setT1 i k g cap hiR (by omega) (unhide HG) (d.tx i k ++ t)
          have HSB := hide hset.1.box
          have HSZ := hide (hset.2.kept (unhide HSP).z (fun e9 => ((unhide HW).kept _ (.inr rfl)).2 (.inr (.inl ⟨i, hiR, e9⟩))))
          have HSet := hide hset
          clear hset
          have hte : (d.tx i k).toList.isEmpty = false := by cases e9 : (d.tx i k).toList with | nil => exact absurd e9 ht | cons _ _ => rfl
          have hzi : ((d.tx i k).size : Int) ≤ 6000 := by omega
          have hov : ¬ 9223372036854775807 < (d.tx i k).size + t.size := by omega
          have p2 := cells_of (unhide HSet).1.box 2 _ rfl
          have p3 : (V.setCell ⟨g, k * 2, none⟩ (.string (d.tx i k ++ t))).cell? ⟨w.heap.size, 3, none⟩ = some (.int .i64 (i : Int)) := by rw [← ei]; exact cells_of (unhide HSet).1.box 3 _ rfl
          have p4 : (V.setCell ⟨g, k * 2, none⟩ (.string (d.tx i k ++ t))).cell? ⟨gb, gk + i, none⟩ = some (.slice (some ⟨g, 0, none⟩) (d.C i) cap) := by rw [← unhide HG]; exact cells_of ((unhide HSet).2.kept (unhide HGB) (fun e9 => (unhide HW).rowGrid hiR e9 rfl)) (gk + i) _ (unhide HGA)
          have HEi := hide ei
          rw [ecol, ei]
          rw [hl, ecol, ei] at HVV
          have HEk := hide ek
          have HEm := hide em2
          have HHl := hide hl
          have HKM := hide ecol
          clear ei ek em2 hkm hl
          try clear ecol
          clear c4 c5 a3 a4
          skip
          go_enter Tryz.func99, Tryz.ntmps99
          go_wp2_with fail
          rw [← unhide HVV]
          clear HVV R1 A1 A2 A3
          try clear D1 D2
          have x1 : (i : Int) < d.rows := by have := unhide HRr; omega
          have x2 : (k : Int) < d.cols := by omega
          have x3 : (k : Int) - 1 < d.cols := by omega
          refine wp_region_held_drew (S := fun W => W.cell? ⟨w.heap.size, 2, none⟩ = some (.slice (some ⟨gb, gk, none⟩) d.R gc) ∧ W.cell? ⟨w.heap.size, 3, none⟩ = some (.int .i64 (i : Int)) ∧ W.cell? ⟨gb, gk + i, none⟩ = some (.slice (some ⟨g, 0, none⟩) (d.C i) cap)) (by kernel_rfl) ⟨c2, c3, r1⟩ (fun hHeld => ?_)
          refine wpAnyH_take (i := 0) (v := ?_) rfl (by kernel_rfl) (by kernel_rfl) (by kernel_rfl) (fun _ _ _ h => h) (Or.inl ⟨by rfl, ?_⟩) (by assumption) ?_
          rotate_left
          · intro w' hSw; obtain ⟨e1, e2, e3⟩ := hSw; go_simp <;> with_reducible rfl
          simp only [Act.put, qA, qB, qC, qD, qE, qF]
          refine wpAnyH_take (i := 1) (v := ?_) rfl (by kernel_rfl) (by kernel_rfl) (by kernel_rfl) (fun _ _ _ h => h) (Or.inl ⟨by rfl, ?_⟩) (by assumption) ?_
          rotate_left
          · intro w' hSw; obtain ⟨e1, e2, e3⟩ := hSw; go_simp <;> with_reducible rfl
          simp only [Act.put, qA, qB, qC, qD, qE, qF]
          refine wpAnyH_take (i := 2) (v := ?_) rfl (by kernel_rfl) (by kernel_rfl) (by kernel_rfl) (fun _ _ _ h => h) (Or.inl ⟨by rfl, ?_⟩) (by assumption) ?_
          rotate_left
          · intro w' hSw; obtain ⟨e1, e2, e3⟩ := hSw; go_simp <;> with_reducible rfl
          simp only [Act.put, qA, qB, qC, qD, qE, qF]
          refine wpAnyH_take (i := 3) (v := ?_) rfl (by kernel_rfl) (by kernel_rfl) (by kernel_rfl) (fun _ _ _ h => h) (Or.inl ⟨by rfl, ?_⟩) (by assumption) ?_
          rotate_left
          · intro w' hSw; obtain ⟨e1, e2, e3⟩ := hSw; go_simp <;> with_reducible rfl
          simp only [Act.put, qA, qB, qC, qD, qE, qF]
          refine wpAnyH_take (i := 4) (v := ?_) rfl (by kernel_rfl) (by kernel_rfl) (by kernel_rfl) (fun _ _ _ h => h) (Or.inl ⟨by rfl, ?_⟩) (by assumption) ?_
          rotate_left
          · intro w' hSw; obtain ⟨e1, e2, e3⟩ := hSw; go_simp <;> with_reducible rfl
          simp only [Act.put, qA, qB, qC, qD, qE, qF]
          refine wpAnyH_take (i := 5) (v := ?_) rfl (by kernel_rfl) (by kernel_rfl) (by kernel_rfl) (fun _ _ _ h => h) (Or.inl ⟨by rfl, ?_⟩) (by assumption) ?_
          rotate_left
          · intro w' hSw; obtain ⟨e1, e2, e3⟩ := hSw; go_simp <;> with_reducible rfl
          simp only [Act.put, qA, qB, qC, qD, qE, qF]
          refine wpAnyH_take (i := 6) (v := ?_) rfl (by kernel_rfl) (by kernel_rfl) (by kernel_rfl) (fun _ _ _ h => h) (Or.inl ⟨by rfl, ?_⟩) (by assumption) ?_
          rotate_left
          · intro w' hSw; obtain ⟨e1, e2, e3⟩ := hSw; go_simp <;> with_reducible rfl
          simp only [Act.put, qA, qB, qC, qD, qE, qF]
          refine wpAnyH_take (i := 7) (v := ?_) rfl (by kernel_rfl) (by kernel_rfl) (by kernel_rfl) (fun _ _ _ h => h) (Or.inl ⟨by rfl, ?_⟩) (by assumption) ?_
          rotate_left
          · intro w' hSw; obtain ⟨e1, e2, e3⟩ := hSw; go_simp <;> with_reducible rfl
          simp only [Act.put, qA, qB, qC, qD, qE, qF]
          refine wpAnyH_take (i := 8) (v := ?_) rfl (by kernel_rfl) (by kernel_rfl) (by kernel_rfl) (fun _ _ _ h => h) (Or.inl ⟨by rfl, ?_⟩) (by assumption) ?_
          rotate_left
          · intro w' hSw; obtain ⟨e1, e2, e3⟩ := hSw; go_simp <;> with_reducible rfl
          simp only [Act.put, qA, qB, qC, qD, qE, qF]
          refine wpAnyH_take (i := 9) (v := ?_) rfl (by kernel_rfl) (by kernel_rfl) (by kernel_rfl) (fun _ _ _ h => h) (Or.inl ⟨by rfl, ?_⟩) (by assumption) ?_
          rotate_left
          · intro w' hSw; obtain ⟨e1, e2, e3⟩ := hSw; go_simp <;> with_reducible rfl
          simp only [Act.put, qA, qB, qC, qD, qE, qF]
          refine wpAnyH_take (i := 10) (v := ?_) rfl (by kernel_rfl) (by kernel_rfl) (by kernel_rfl) (fun _ _ _ h => h) (Or.inl ⟨by rfl, ?_⟩) (by assumption) ?_
          rotate_left
          · intro w' hSw; obtain ⟨e1, e2, e3⟩ := hSw; go_simp <;> with_reducible rfl
          simp only [Act.put, qA, qB, qC, qD, qE, qF]
          refine wpAnyH_take (i := 11) (v := ?_) rfl (by kernel_rfl) (by kernel_rfl) (by kernel_rfl) (fun _ _ _ h => h) (Or.inl ⟨by rfl, ?_⟩) (by assumption) ?_
          rotate_left
          · intro w' hSw; obtain ⟨e1, e2, e3⟩ := hSw; go_simp <;> with_reducible rfl
          simp only [Act.put, qA, qB, qC, qD, qE, qF]
          refine wpAnyH_take (i := 12) (v := ?_) rfl (by kernel_rfl) (by kernel_rfl) (by kernel_rfl) (fun _ _ _ h => h) (Or.inl ⟨by rfl, ?_⟩) (by assumption) ?_
          rotate_left
          · intro w' hSw; obtain ⟨e1, e2, e3⟩ := hSw; go_simp <;> with_reducible rfl
          simp only [Act.put, qA, qB, qC, qD, qE, qF]
          refine wpAnyH_take (i := 13) (v := ?_) rfl (by kernel_rfl) (by kernel_rfl) (by kernel_rfl) (fun _ _ _ h => h) (Or.inl ⟨by rfl, ?_⟩) (by assumption) ?_
          rotate_left
          · intro w' hSw; obtain ⟨e1, e2, e3⟩ := hSw; go_simp <;> with_reducible rfl
          simp only [Act.put, qA, qB, qC, qD, qE, qF]
          refine wpAnyH_take (i := 14) (v := ?_) rfl (by kernel_rfl) (by kernel_rfl) (by kernel_rfl) (fun _ _ _ h => h) (Or.inl ⟨by rfl, ?_⟩) (by assumption) ?_
          rotate_left
          · intro w' hSw; obtain ⟨e1, e2, e3⟩ := hSw; go_simp <;> with_reducible rfl
          simp only [Act.put, qA, qB, qC, qD, qE, qF]
          refine wpAnyH_take (i := 15) (v := ?_) rfl (by kernel_rfl) (by kernel_rfl) (by kernel_rfl) (fun _ _ _ h => h) (Or.inl ⟨by rfl, ?_⟩) (by assumption) ?_
          rotate_left
          · intro w' hSw; obtain ⟨e1, e2, e3⟩ := hSw; go_simp <;> with_reducible rfl
          simp only [Act.put, qA, qB, qC, qD, qE, qF]
          refine wpAnyH_take (i := 17) (v := ?_) rfl (by kernel_rfl) (by kernel_rfl) (by kernel_rfl) (fun _ _ _ h => h) (Or.inl ⟨by rfl, ?_⟩) (by assumption) ?_
          rotate_left
          · intro w' hSw; obtain ⟨e1, e2, e3⟩ := hSw; go_simp <;> with_reducible rfl
          simp only [Act.put, qA, qB, qC, qD, qE, qF]
          refine wpAnyH_ready (rs := [16]) (by kernel_rfl) (by simp) ?_
          refine AllReadyH.cons rfl (fun K hK => ?_) AllReadyH.nil
          go_simp
          refine hK.out _ _ ⟨c2, c3, r1⟩ (fun hHeld => ?_)
          clear hK K
          refine wpAnyH_take (i := 18) (v := ?_) rfl (by kernel_rfl) (by kernel_rfl) (by kernel_rfl) (fun _ _ _ h => h) (Or.inl ⟨by rfl, ?_⟩) (by assumption) ?_
          rotate_left
          · intro w' hSw; obtain ⟨e1, e2, e3⟩ := hSw; go_simp <;> with_reducible rfl
          simp only [Act.put, qA, qB, qC, qD, qE, qF]
          refine wpAnyH_take (i := 19) (v := ?_) rfl (by kernel_rfl) (by kernel_rfl) (by kernel_rfl) (fun _ _ _ h => h) (Or.inl ⟨by rfl, ?_⟩) (by assumption) ?_
          rotate_left
          · intro w' hSw; obtain ⟨e1, e2, e3⟩ := hSw; go_simp <;> with_reducible rfl
          simp only [Act.put, qA, qB, qC, qD, qE, qF]
          refine wpAnyH_take (i := 20) (v := ?_) rfl (by kernel_rfl) (by kernel_rfl) (by kernel_rfl) (fun _ _ _ h => h) (Or.inl ⟨by rfl, ?_⟩) (by assumption) ?_
          rotate_left
          · intro w' hSw; obtain ⟨e1, e2, e3⟩ := hSw; go_simp <;> with_reducible rfl
          simp only [Act.put, qA, qB, qC, qD, qE, qF]
          refine wpAnyH_ready (rs := [21]) (by kernel_rfl) (by simp) ?_
          refine AllReadyH.cons rfl (fun K hK => ?_) AllReadyH.nil
          go_simp
          refine hK.out _ _ ⟨p2, p3, p4⟩ (fun hHeld => ?_)
          clear hK K
          refine wpAnyH_done (by kernel_rfl) ?_ _
          clear c2 c3 r1 p2 p3 p4
          go_wp2_with (first | (refine wpList_load_blk rfl 26 _ rfl w.heap.size rfl _ _ _ _ (unhide HSB) Tryz.underlying26 rfl infoScr8 ?_) | (refine wpList_store_blk rfl 26 _ _ rfl rfl (w.heap.size + 1) rfl _ _ _ rfl (unhide HSZ) infoScr8 rfl (by simp [Value.oneCell']) ?_; intro X9 HX9 hX9; have HXB := hide HX9; have HXF := hide hX9; clear HX9 hX9))
          have v0 := cells_of (unhide HXB) 0 _ rfl
          have v1 := cells_of (unhide HXB) 1 _ rfl
          have v2 := cells_of (unhide HXB) 2 _ rfl
          have v3 := cells_of (unhide HXB) 3 _ rfl
          have v4 := cells_of (unhide HXB) 4 _ rfl
          have v5 := cells_of (unhide HXB) 5 _ rfl
          have v6 := cells_of (unhide HXB) 6 _ rfl
          have v7 := cells_of (unhide HXB) 7 _ rfl
          have hset := unhide HSet
          have HXF' := hide (Fr.tr (S := fun q => q = w.heap.size + 1) (Fr.of_ext (Ext.refl (V.setCell ⟨g, k * 2, none⟩ (.string (d.tx i k ++ t)))).drew) (unhide HXF))
          have hV9 := hset.1.toV.fr (unhide HXF') (fun g9 hg9 e9 => (hset.1.kept g9 (.inr e9)).2 hg9)
          refine bodyPost_ret (v := scrV d (.slice (some ⟨gb, gk, none⟩) d.R gc) (.slice hs ha hc) (.slice ba d.nb bc)) (by unfold scrV; simp [results, Tryz.results99, go_sem, v0, v1, v2, v3, v4, v5, v6, v7]; exact ⟨rfl, rfl, rfl, rfl, rfl⟩) rfl ⟨_, rv, _, by rw [unhide HEM]; rfl, by rw [unhide HEM]; exact hV9.keep (fun q hq => .inl hq), ?_⟩
          have fr1 : FrV base X w (V.setCell ⟨g, k * 2, none⟩ (.string (d.tx i k ++ t))) := Fr.mono (FrW.toV ((unhide HW).rowFr i hiR hset.2) (unhide HSP).ext (Nat.le_refl _)) (fun q hq => ⟨hq.1, fun hx => hq.2 (.inl hx)⟩)
          exact Fr.tr fr1 ((unhide HXF').mono (fun q hq => ⟨by have := (unhide H).top; omega, fun hx => by have := ((unhide H).kept q hx).1; omega⟩))
      · have HEM : Hid (d.mark t = d) := hide (by unfold SD.mark; rw [if_neg hm, em2, ei, Int.toNat_natCast, if_neg (fun x => hz x.2)])
        have HSB := hide (unhide HSP).s
        have HSZ := hide (unhide HSP).z
        by_cases h0k : (0 : Int) < (k : Int)
        · have HEi := hide ei
          rw [ecol, ei]
          have HEk := hide ek
          have HEm := hide em2
          have HHl := hide hl
          have HKM := hide ecol
          clear ei ek em2 hkm hl
          try clear ecol
          clear c2 c3 c4 c5 r1 a1 a2 a3 a4 HVV
          skip
          go_enter Tryz.func99, Tryz.ntmps99
          go_wp2_with fail
          refine bodyPost_ret (v := .agg #[.int .i64 d.cols, .int .i64 d.rows, .slice (some ⟨gb, gk, none⟩) d.R gc, .int .i64 (i : Int), .int .i64 ((k : Int) + 1), .bool false, .slice hs ha hc, .slice ba d.nb bc]) (by simp [results, Tryz.results99, go_sem]) rfl ⟨_, rv, _, ?_, by rw [unhide HEM]; exact (unhide H).ext (((Ext.refl w).alloc _).alloc _), Fr.of_ext (((Ext.refl w).alloc _).alloc _)⟩
          rw [unhide HEM]
          unfold scrV
          rw [unhide HHl, unhide HKM, unhide HEi]
        · have HEi := hide ei
          rw [ecol, ei]
          have HEk := hide ek
          have HEm := hide em2
          have HHl := hide hl
          have HKM := hide ecol
          clear ei ek em2 hkm hl
          try clear ecol
          clear c2 c3 c4 c5 r1 a1 a2 a3 a4 HVV
          skip
          go_enter Tryz.func99, Tryz.ntmps99
          go_wp2_with fail
          refine bodyPost_ret (v := .agg #[.int .i64 d.cols, .int .i64 d.rows, .slice (some ⟨gb, gk, none⟩) d.R gc, .int .i64 (i : Int), .int .i64 ((k : Int) + 1), .bool false, .slice hs ha hc, .slice ba d.nb bc]) (by simp [results, Tryz.results99, go_sem]) rfl ⟨_, rv, _, ?_, by rw [unhide HEM]; exact (unhide H).ext (((Ext.refl w).alloc _).alloc _), Fr.of_ext (((Ext.refl w).alloc _).alloc _)⟩
          rw [unhide HEM]
          unfold scrV
          rw [unhide HHl, unhide HKM, unhide HEi]
end
end Go.Proofs.YtinfdhbnljnifaaGreatDoor
