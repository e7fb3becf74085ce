import Derived.Test.YtlnmpbdnmlpkiaaDoorResizeT
namespace Go.Proofs.YtlnmpbdnmlpkiaaDoor
open Go.RowKit

set_option linter.unusedSimpArgs false in
set_option maxRecDepth 10000 in
set_option maxHeartbeats 4000000 in
theorem specResize_no1 (d : SD) (gv hv bv : Value) (c r : Int) (w : World) (h : ScrAt w d gv hv bv) (hs : sizeB c r = false) :
    Calls Tryd.prog 37 #[scrV d gv hv bv, .int .i64 c, .int .i64 r] w fun e w' => e = .returned (.tuple #[scrV zeroSD (.slice none 0 0) (.slice none 0 0) (.slice none 0 0), .bool false]) ∧ Ext w w' := by
  have hcN := hide (fun U => specNewScreen_no c r U hs)
  obtain ⟨ga, gc, ha, hc, ba, bc, rfl, rfl, rfl⟩ := h.forms
  unfold scrV at *
  clear h
  go_enter Tryd.func37, Tryd.ntmps37
  go_wp2_with fail
  have hb0 := new_block (w.alloc (.cells (scells d ga gc ha hc ba bc) 31)) (.cells zcells 31)
  have hbs := ((Ext.refl _).alloc (.cells zcells 31)).kept (new_block w (.cells (scells d ga gc ha hc ba bc) 31))
  have E0 := ((Ext.refl w).alloc (.cells (scells d ga gc ha hc ba bc) 31)).alloc (.cells zcells 31)
  have hz0 : ((w.alloc (.cells (scells d ga gc ha hc ba bc) 31)).alloc (.cells zcells 31)).heap.size = w.heap.size + 2 := by simp
  obtain ⟨W0, hW0⟩ : ∃ W0, W0 = (w.alloc (.cells (scells d ga gc ha hc ba bc) 31)).alloc (.cells zcells 31) := ⟨_, rfl⟩
  rw [← hW0] at hb0 hbs E0 hz0 ⊢
  have hz : (w.alloc (.cells (scells d ga gc ha hc ba bc) 31)).heap.size = w.heap.size + 1 := by simp
  rw [hz] at hb0
  clear hW0 hz
  refine ((unhide hcN) _).mono ?_
  rintro e w1 ⟨rfl, F1⟩
  have hb1 := F1.kept hb0
  have hs1 := F1.size
  have f1 : ∀ o i, (w1.alloc o).frozen? ⟨w.heap.size + 1, i, none⟩ = false := fun o i => Lib.frozen_of_heap (((Ext.refl w1).alloc o).kept hb1) i
  have a0 : ∀ o, (w1.alloc o).cell? ⟨w.heap.size + 1, 0, none⟩ = some (.int .i64 0) := fun o => ((Ext.refl w1).alloc o).cell (cells_of hb1 0 _ rfl)
  have a1 : ∀ o, (w1.alloc o).cell? ⟨w.heap.size + 1, 1, none⟩ = some (.int .i64 0) := fun o => ((Ext.refl w1).alloc o).cell (cells_of hb1 1 _ rfl)
  have a2 : ∀ o, (w1.alloc o).cell? ⟨w.heap.size + 1, 2, none⟩ = some (.slice none 0 0) := fun o => ((Ext.refl w1).alloc o).cell (cells_of hb1 2 _ rfl)
  have a3 : ∀ o, (w1.alloc o).cell? ⟨w.heap.size + 1, 3, none⟩ = some (.int .i64 0) := fun o => ((Ext.refl w1).alloc o).cell (cells_of hb1 3 _ rfl)
  have a4 : ∀ o, (w1.alloc o).cell? ⟨w.heap.size + 1, 4, none⟩ = some (.int .i64 0) := fun o => ((Ext.refl w1).alloc o).cell (cells_of hb1 4 _ rfl)
  have a5 : ∀ o, (w1.alloc o).cell? ⟨w.heap.size + 1, 5, none⟩ = some (.bool false) := fun o => ((Ext.refl w1).alloc o).cell (cells_of hb1 5 _ rfl)
  have a6 : ∀ o, (w1.alloc o).cell? ⟨w.heap.size + 1, 6, none⟩ = some (.slice none 0 0) := fun o => ((Ext.refl w1).alloc o).cell (cells_of hb1 6 _ rfl)
  have a7 : ∀ o, (w1.alloc o).cell? ⟨w.heap.size + 1, 7, none⟩ = some (.slice none 0 0) := fun o => ((Ext.refl w1).alloc o).cell (cells_of hb1 7 _ rfl)
  clear hb0 hbs hb1
  unfold zeroSD
  go_wp2
  refine bodyPost_ret (v := .tuple #[.agg zcells, .bool false]) (by simp [results, Tryd.results37, go_sem, a0, a1, a2, a3, a4, a5, a6, a7]) rfl ⟨rfl, ?_⟩
  refine Fr.ext (S := fun q => q = w.heap.size + 1) (w := w1.alloc (.cells zcells 31)) ?_ ((E0.trans F1).alloc _) (fun k hk => by omega)
  repeat' first | refine Fr.setCell (S := fun q => q = w.heap.size + 1) ?_ (a := ⟨w.heap.size + 1, _, none⟩) rfl _ | exact Fr.refl _ _
set_option linter.unusedSimpArgs false in
set_option maxRecDepth 10000 in
set_option maxHeartbeats 4000000 in
theorem specResize_no2 (d : SD) (gv hv bv : Value) (c r : Nat) (w : World) (h : ScrAt w d gv hv bv) (hF : d.Fits) (hok : ¬ OkP d) (hs : sizeB c r = true) (hc2 : c ≤ 200) (hr2 : r ≤ 100) :
    Calls Tryd.prog 37 #[scrV d gv hv bv, .int .i64 c, .int .i64 r] w fun e w' => e = .returned (.tuple #[scrV zeroSD (.slice none 0 0) (.slice none 0 0) (.slice none 0 0), .bool false]) ∧ Ext w w' := by
  have hcN := hide (fun U => specNewScreen_yes c r U hs hc2 hr2)
  have hcO := hide (fun U (hU : Ext w U) => specScreenOk_any d gv hv bv false (by simp [hok]) U (h.ext hU) hF)
  obtain ⟨ga, gc, ha, hc, ba, bc, rfl, rfl, rfl⟩ := h.forms
  unfold scrV at *
  clear h
  go_enter Tryd.func37, Tryd.ntmps37
  go_wp2_with fail
  have hb0 := new_block (w.alloc (.cells (scells d ga gc ha hc ba bc) 31)) (.cells zcells 31)
  have hbs := ((Ext.refl _).alloc (.cells zcells 31)).kept (new_block w (.cells (scells d ga gc ha hc ba bc) 31))
  have E0 := ((Ext.refl w).alloc (.cells (scells d ga gc ha hc ba bc) 31)).alloc (.cells zcells 31)
  have hz0 : ((w.alloc (.cells (scells d ga gc ha hc ba bc) 31)).alloc (.cells zcells 31)).heap.size = w.heap.size + 2 := by simp
  obtain ⟨W0, hW0⟩ : ∃ W0, W0 = (w.alloc (.cells (scells d ga gc ha hc ba bc) 31)).alloc (.cells zcells 31) := ⟨_, rfl⟩
  rw [← hW0] at hb0 hbs E0 hz0 ⊢
  have hz : (w.alloc (.cells (scells d ga gc ha hc ba bc) 31)).heap.size = w.heap.size + 1 := by simp
  rw [hz] at hb0
  clear hW0 hz
  refine ((unhide hcN) _).mono ?_
  rintro e w1 ⟨g1, rv1, h1, b1, rfl, og1, r1, F1⟩
  obtain ⟨xa, xc, ya, yc, za, zc, rfl, rfl, rfl⟩ := r1.forms
  have hb1 := F1.kept hb0
  have hbs1 := F1.kept hbs
  have hs1 := F1.size
  have p0 : ∀ o, (w1.alloc o).cell? ⟨w.heap.size, 0, none⟩ = some (.int .i64 d.cols) := fun o => ((Ext.refl w1).alloc o).cell (cells_of hbs1 0 _ rfl)
  have p1 : ∀ o, (w1.alloc o).cell? ⟨w.heap.size, 1, none⟩ = some (.int .i64 d.rows) := fun o => ((Ext.refl w1).alloc o).cell (cells_of hbs1 1 _ rfl)
  have p2 : ∀ o, (w1.alloc o).cell? ⟨w.heap.size, 2, none⟩ = some (.slice ga d.R gc) := fun o => ((Ext.refl w1).alloc o).cell (cells_of hbs1 2 _ rfl)
  have p3 : ∀ o, (w1.alloc o).cell? ⟨w.heap.size, 3, none⟩ = some (.int .i64 d.row) := fun o => ((Ext.refl w1).alloc o).cell (cells_of hbs1 3 _ rfl)
  have p4 : ∀ o, (w1.alloc o).cell? ⟨w.heap.size, 4, none⟩ = some (.int .i64 d.col) := fun o => ((Ext.refl w1).alloc o).cell (cells_of hbs1 4 _ rfl)
  have p5 : ∀ o, (w1.alloc o).cell? ⟨w.heap.size, 5, none⟩ = some (.bool d.late) := fun o => ((Ext.refl w1).alloc o).cell (cells_of hbs1 5 _ rfl)
  have p6 : ∀ o, (w1.alloc o).cell? ⟨w.heap.size, 6, none⟩ = some (.slice ha d.hold.length hc) := fun o => ((Ext.refl w1).alloc o).cell (cells_of hbs1 6 _ rfl)
  have p7 : ∀ o, (w1.alloc o).cell? ⟨w.heap.size, 7, none⟩ = some (.slice ba d.nb bc) := fun o => ((Ext.refl w1).alloc o).cell (cells_of hbs1 7 _ rfl)
  clear r1 og1
  dsimp only [blankSD, List.length_nil]
  go_wp2_with fail
  obtain ⟨V2, hV2⟩ : ∃ V2, V2 = w1.alloc (.cells #[.int .i64 c, .int .i64 r, .slice xa r xc, .int .i64 0, .int .i64 0, .bool false, .slice ya 0 yc, .slice za 0 zc] 31) := ⟨_, rfl⟩
  have G2 : Ext w1 V2 := by rw [hV2]; exact (Ext.refl w1).alloc _
  rw [← hV2]
  clear hV2 p0 p1 p2 p3 p4 p5 p6 p7
  refine ((unhide hcO) _ ((E0.trans F1).trans G2)).mono ?_
  rintro e w3 ⟨rfl, F3⟩
  have hb3 := (G2.trans F3).kept hb1
  have f1 : ∀ i, w3.frozen? ⟨w.heap.size + 1, i, none⟩ = false := fun i => Lib.frozen_of_heap hb3 i
  have a0 := cells_of hb3 0 _ rfl
  have a1 := cells_of hb3 1 _ rfl
  have a2 := cells_of hb3 2 _ rfl
  have a3 := cells_of hb3 3 _ rfl
  have a4 := cells_of hb3 4 _ rfl
  have a5 := cells_of hb3 5 _ rfl
  have a6 := cells_of hb3 6 _ rfl
  have a7 := cells_of hb3 7 _ rfl
  clear hb0 hbs hb1 hbs1 hb3
  go_wp2
  refine bodyPost_ret (v := .tuple #[scrV zeroSD (.slice none 0 0) (.slice none 0 0) (.slice none 0 0), .bool false]) (by simp [results, Tryd.results37, go_sem, scrV, zeroSD, a0, a1, a2, a3, a4, a5, a6, a7]) rfl ⟨rfl, ?_⟩
  refine Fr.ext (S := fun q => q = w.heap.size + 1) (w := w3) ?_ (((E0.trans F1).trans G2).trans F3) (fun k hk => by omega)
  repeat' first | refine Fr.setCell (S := fun q => q = w.heap.size + 1) ?_ (a := ⟨w.heap.size + 1, _, none⟩) rfl _ | exact Fr.refl _ _
set_option linter.unusedSimpArgs false in
set_option maxRecDepth 10000 in
set_option maxHeartbeats 4000000 in
theorem specResize_yes (d : SD) (gv hv bv : Value) (c r : Nat) (w : World) (h : ScrAt w d gv hv bv) (hF : d.Fits) (hT : d.Texts) (hok : OkP d) (hs : sizeB c r = true) (hc2 : c ≤ 200) (hr2 : r ≤ 100) :
    Calls Tryd.prog 37 #[scrV d gv hv bv, .int .i64 c, .int .i64 r] w fun e w' => ∃ gv' hv' bv', e = .returned (.tuple #[scrV (resD d c r) gv' hv' bv', .bool true]) ∧ ScrAt w' (resD d c r) gv' hv' bv' ∧ Ext w w' := by
  have hcN := hide (fun U => specNewScreen_yes c r U hs hc2 hr2)
  have hcO := hide (fun U (hU : Ext w U) => specScreenOk_any d gv hv bv true (by simp [hok]) U (h.ext hU) hF)
  have hcL := hide (fun U (hU : Ext w U) => specLines_any d gv hv bv true (by simp [hok]) U (h.ext hU) hF hT)
  obtain ⟨ga, gc, ha, hc, ba, bc, rfl, rfl, rfl⟩ := h.forms
  unfold scrV at *
  clear h
  go_enter Tryd.func37, Tryd.ntmps37
  go_wp2_with fail
  have hb0 := new_block (w.alloc (.cells (scells d ga gc ha hc ba bc) 31)) (.cells zcells 31)
  have hbs := ((Ext.refl _).alloc (.cells zcells 31)).kept (new_block w (.cells (scells d ga gc ha hc ba bc) 31))
  have E0 := ((Ext.refl w).alloc (.cells (scells d ga gc ha hc ba bc) 31)).alloc (.cells zcells 31)
  have hz0 : ((w.alloc (.cells (scells d ga gc ha hc ba bc) 31)).alloc (.cells zcells 31)).heap.size = w.heap.size + 2 := by simp
  obtain ⟨W0, hW0⟩ : ∃ W0, W0 = (w.alloc (.cells (scells d ga gc ha hc ba bc) 31)).alloc (.cells zcells 31) := ⟨_, rfl⟩
  rw [← hW0] at hb0 hbs E0 hz0 ⊢
  have hz : (w.alloc (.cells (scells d ga gc ha hc ba bc) 31)).heap.size = w.heap.size + 1 := by simp
  rw [hz] at hb0
  clear hW0 hz
  refine ((unhide hcN) _).mono ?_
  rintro e w1 ⟨g1, rv1, h1, b1, rfl, og1, r1, F1⟩
  obtain ⟨xa, xc, ya, yc, za, zc, rfl, rfl, rfl⟩ := r1.forms
  have hb1 := F1.kept hb0
  have hbs1 := F1.kept hbs
  have hs1 := F1.size
  have HG := hide og1
  have p0 : ∀ o, (w1.alloc o).cell? ⟨w.heap.size, 0, none⟩ = some (.int .i64 d.cols) := fun o => ((Ext.refl w1).alloc o).cell (cells_of hbs1 0 _ rfl)
  have p1 : ∀ o, (w1.alloc o).cell? ⟨w.heap.size, 1, none⟩ = some (.int .i64 d.rows) := fun o => ((Ext.refl w1).alloc o).cell (cells_of hbs1 1 _ rfl)
  have p2 : ∀ o, (w1.alloc o).cell? ⟨w.heap.size, 2, none⟩ = some (.slice ga d.R gc) := fun o => ((Ext.refl w1).alloc o).cell (cells_of hbs1 2 _ rfl)
  have p3 : ∀ o, (w1.alloc o).cell? ⟨w.heap.size, 3, none⟩ = some (.int .i64 d.row) := fun o => ((Ext.refl w1).alloc o).cell (cells_of hbs1 3 _ rfl)
  have p4 : ∀ o, (w1.alloc o).cell? ⟨w.heap.size, 4, none⟩ = some (.int .i64 d.col) := fun o => ((Ext.refl w1).alloc o).cell (cells_of hbs1 4 _ rfl)
  have p5 : ∀ o, (w1.alloc o).cell? ⟨w.heap.size, 5, none⟩ = some (.bool d.late) := fun o => ((Ext.refl w1).alloc o).cell (cells_of hbs1 5 _ rfl)
  have p6 : ∀ o, (w1.alloc o).cell? ⟨w.heap.size, 6, none⟩ = some (.slice ha d.hold.length hc) := fun o => ((Ext.refl w1).alloc o).cell (cells_of hbs1 6 _ rfl)
  have p7 : ∀ o, (w1.alloc o).cell? ⟨w.heap.size, 7, none⟩ = some (.slice ba d.nb bc) := fun o => ((Ext.refl w1).alloc o).cell (cells_of hbs1 7 _ rfl)
  clear r1 og1
  dsimp only [blankSD, List.length_nil]
  go_wp2_with fail
  obtain ⟨V2, hV2⟩ : ∃ V2, V2 = w1.alloc (.cells #[.int .i64 c, .int .i64 r, .slice xa r xc, .int .i64 0, .int .i64 0, .bool false, .slice ya 0 yc, .slice za 0 zc] 31) := ⟨_, rfl⟩
  have G2 : Ext w1 V2 := by rw [hV2]; exact (Ext.refl w1).alloc _
  have hb2 : V2.heap[w1.heap.size]? = some (.cells #[.int .i64 c, .int .i64 r, .slice xa r xc, .int .i64 0, .int .i64 0, .bool false, .slice ya 0 yc, .slice za 0 zc] 31 (0, 0)) := by rw [hV2]; exact new_block w1 _
  have hz2 : V2.heap.size = w1.heap.size + 1 := by rw [hV2]; simp
  rw [← hV2]
  clear hV2 p0 p1 p2 p3 p4 p5 p6 p7
  refine ((unhide hcO) _ ((E0.trans F1).trans G2)).mono ?_
  rintro e w3 ⟨rfl, F3⟩
  have hs3 := F3.size
  have hbs3 := (G2.trans F3).kept hbs1
  have p0 := cells_of hbs3 0 _ rfl
  have p1 := cells_of hbs3 1 _ rfl
  have p2 := cells_of hbs3 2 _ rfl
  have p3 := cells_of hbs3 3 _ rfl
  have p4 := cells_of hbs3 4 _ rfl
  have p5 := cells_of hbs3 5 _ rfl
  have p6 := cells_of hbs3 6 _ rfl
  have p7 := cells_of hbs3 7 _ rfl
  clear hbs3
  go_wp2_with fail
  refine ((unhide hcL) _ (((E0.trans F1).trans G2).trans F3)).mono ?_
  rintro e w4 ⟨v4, rfl, o4, F4⟩
  replace o4 : Own1 w4 w3.heap.size 9 v4 (linN d) (fun j => .string (linT d j)) := o4
  obtain ⟨sa, sc, rfl⟩ := o4.slice
  have OB := hide o4
  have T4 := F3.trans F4
  have hb4 := (G2.trans T4).kept hb1
  have hq4 := T4.kept hb2
  have f1 : ∀ i, w4.frozen? ⟨w.heap.size + 1, i, none⟩ = false := fun i => Lib.frozen_of_heap hb4 i
  have f2 : ∀ i, w4.frozen? ⟨w1.heap.size, i, none⟩ = false := fun i => Lib.frozen_of_heap hq4 i
  have a0 := cells_of hb4 0 _ rfl
  have a1 := cells_of hb4 1 _ rfl
  have a2 := cells_of hb4 2 _ rfl
  have a3 := cells_of hb4 3 _ rfl
  have a4 := cells_of hb4 4 _ rfl
  have a5 := cells_of hb4 5 _ rfl
  have a6 := cells_of hb4 6 _ rfl
  have a7 := cells_of hb4 7 _ rfl
  have q0 := cells_of hq4 0 _ rfl
  have q1 := cells_of hq4 1 _ rfl
  have q2 := cells_of hq4 2 _ rfl
  have q3 := cells_of hq4 3 _ rfl
  have q4 := cells_of hq4 4 _ rfl
  have q5 := cells_of hq4 5 _ rfl
  have q6 := cells_of hq4 6 _ rfl
  have q7 := cells_of hq4 7 _ rfl
  have OG4 := hide ((unhide HG).ext (G2.trans T4))
  have hne : ¬ w.heap.size + 1 = w1.heap.size := by omega
  have hne' : ¬ w1.heap.size = w.heap.size + 1 := by omega
  clear o4 hb0 hbs hb2 hb4 hq4 hcL hcO hb1 hbs1 p0 p1 p2 p3 p4 p5 p6 p7
  go_wp2
  refine bodyPost_ret (v := .tuple #[scrV (resD d c r) (.slice xa r xc) (.slice ya 0 yc) (.slice sa (linN d) sc), .bool true]) (by simp [results, Tryd.results37, go_sem, scrV, resD, blankSD, a0, a1, a2, a3, a4, a5, a6, a7, q0, q1, q2, q3, q4, q5, q6, q7, hne, hne']) rfl ⟨_, _, _, rfl, ?_⟩
  have hfr : ∀ W : World, Fr (fun q => q = w.heap.size + 1 ∨ q = w1.heap.size) w4 W → ScrAt W (resD d c r) (.slice xa r xc) (.slice ya 0 yc) (.slice sa (linN d) sc) ∧ Ext w W := by
    intro W hf
    have og := unhide OG4
    have ob := unhide OB
    have oglt := unhide HG
    refine ⟨⟨(og.fr hf (fun g hg e => ?_)).reads, ⟨_, _, rfl, Nat.zero_le _, fun hp => absurd hp (Nat.lt_irrefl 0)⟩, (ob.fr hf (fun g hg e => ?_)).reads⟩, hf.ext ((((E0.trans F1).trans G2).trans T4)) (fun k hk => by rcases hk with hk | hk <;> omega)⟩
    · have h1 := oglt.foot hg
      omega
    · have := ob.lt g hg
      omega
  refine hfr _ ?_
  repeat' first | refine Fr.setCell (S := fun q => q = w.heap.size + 1 ∨ q = w1.heap.size) ?_ (a := ⟨w.heap.size + 1, _, none⟩) (.inl rfl) _ | refine Fr.setCell (S := fun q => q = w.heap.size + 1 ∨ q = w1.heap.size) ?_ (a := ⟨w1.heap.size, _, none⟩) (.inr rfl) _ | exact Fr.refl _ _
end Go.Proofs.YtlnmpbdnmlpkiaaDoor
