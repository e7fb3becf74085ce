import Derived.Test.YtlnmpbdnmlpkiaaDoorLinesS
import Derived.Test.YtlnmpbdnmlpkiaaDoorNewScrS
namespace Go.Proofs.YtlnmpbdnmlpkiaaDoor
open Go.RowKit

/-- What Resize gives. -/
def resD (d : SD) (c r : Nat) : SD := { blankSD c r with nb := linN d, bk := linT d }
abbrev scells (d : SD) (ga : Option Addr) (gc : Nat) (ha : Option Addr) (hc : Nat) (ba : Option Addr) (bc : Nat) : Array Value := #[.int .i64 d.cols, .int .i64 d.rows, .slice ga d.R gc, .int .i64 d.row, .int .i64 d.col, .bool d.late, .slice ha d.hold.length hc, .slice ba d.nb bc]
abbrev zcells : Array Value := #[.int .i64 0, .int .i64 0, .slice none 0 0, .int .i64 0, .int .i64 0, .bool false, .slice none 0 0, .slice none 0 0]
set_option maxRecDepth 10000 in
set_option maxHeartbeats 4000000 in
theorem implResize_no1 (d : SD) (gv hv bv : Value) (c r : Int) (w : World) (h : ScrAt w d gv hv bv) (hF : d.Fits) (hok : ¬ OkP d) :
    Calls Tryd.prog 38 #[scrV d gv hv bv, .int .i64 c, .int .i64 r] w fun e w' => e = .returned (.tuple #[scrV zeroSD (.slice none 0 0) (.slice none 0 0) (.slice none 0 0), .bool false]) ∧ Ext w w' := by
  have hcO := hide (fun U (hU : Ext w U) => implScreenOk_any d gv hv bv false (by simp [hok]) U (h.ext hU) hF)
  obtain ⟨ga, gc, ha, hc, ba, bc, rfl, rfl, rfl⟩ := h.forms
  unfold scrV at *
  clear h
  go_enter Tryd.func38, Tryd.ntmps38
  go_wp2_with fail
  have hb0 := new_block (w.alloc (.cells (scells d ga gc ha hc ba bc) 31)) (.cells zcells 31)
  have E0 := ((Ext.refl w).alloc (.cells (scells d ga gc ha hc ba bc) 31)).alloc (.cells zcells 31)
  obtain ⟨W0, hW0⟩ : ∃ W0, W0 = (w.alloc (.cells (scells d ga gc ha hc ba bc) 31)).alloc (.cells zcells 31) := ⟨_, rfl⟩
  rw [← hW0] at hb0 E0 ⊢
  have hz : (w.alloc (.cells (scells d ga gc ha hc ba bc) 31)).heap.size = w.heap.size + 1 := by simp
  rw [hz] at hb0
  clear hW0 hz
  refine ((unhide hcO) _ E0).mono ?_
  rintro e w1 ⟨rfl, F1⟩
  have hb1 := F1.kept hb0
  have f1 : ∀ i, w1.frozen? ⟨w.heap.size + 1, i, none⟩ = false := fun i => Lib.frozen_of_heap hb1 i
  have a0 := cells_of hb1 0 _ rfl
  have a1 := cells_of hb1 1 _ rfl
  have a2 := cells_of hb1 2 _ rfl
  have a3 := cells_of hb1 3 _ rfl
  have a4 := cells_of hb1 4 _ rfl
  have a5 := cells_of hb1 5 _ rfl
  have a6 := cells_of hb1 6 _ rfl
  have a7 := cells_of hb1 7 _ rfl
  clear hb1 hb0
  go_wp2
  refine bodyPost_ret (v := .tuple #[scrV zeroSD (.slice none 0 0) (.slice none 0 0) (.slice none 0 0), .bool false]) (by simp [results, Tryd.results38, go_sem, scrV, zeroSD, a0, a1, a2, a3, a4, a5, a6, a7]) rfl ⟨rfl, ?_⟩
  refine Fr.ext (S := fun q => q = w.heap.size + 1) ?_ (E0.trans F1) (fun k hk => by omega)
  repeat' first | refine Fr.setCell (S := fun q => q = w.heap.size + 1) ?_ (a := ⟨w.heap.size + 1, _, none⟩) rfl _ | exact Fr.refl _ _
set_option maxRecDepth 10000 in
set_option maxHeartbeats 4000000 in
theorem implResize_no2 (d : SD) (gv hv bv : Value) (c r : Int) (w : World) (h : ScrAt w d gv hv bv) (hF : d.Fits) (hok : OkP d) (hs : sizeB c r = false) :
    Calls Tryd.prog 38 #[scrV d gv hv bv, .int .i64 c, .int .i64 r] w fun e w' => e = .returned (.tuple #[scrV zeroSD (.slice none 0 0) (.slice none 0 0) (.slice none 0 0), .bool false]) ∧ Ext w w' := by
  have hcO := hide (fun U (hU : Ext w U) => implScreenOk_any d gv hv bv true (by simp [hok]) U (h.ext hU) hF)
  obtain ⟨ga, gc, ha, hc, ba, bc, rfl, rfl, rfl⟩ := h.forms
  unfold scrV at *
  clear h
  go_enter Tryd.func38, Tryd.ntmps38
  go_wp2_with fail
  have hb0 := new_block (w.alloc (.cells (scells d ga gc ha hc ba bc) 31)) (.cells zcells 31)
  have hbs := ((Ext.refl _).alloc (.cells zcells 31)).kept (new_block w (.cells (scells d ga gc ha hc ba bc) 31))
  have E0 := ((Ext.refl w).alloc (.cells (scells d ga gc ha hc ba bc) 31)).alloc (.cells zcells 31)
  have hz0 : ((w.alloc (.cells (scells d ga gc ha hc ba bc) 31)).alloc (.cells zcells 31)).heap.size = w.heap.size + 2 := by simp
  obtain ⟨W0, hW0⟩ : ∃ W0, W0 = (w.alloc (.cells (scells d ga gc ha hc ba bc) 31)).alloc (.cells zcells 31) := ⟨_, rfl⟩
  rw [← hW0] at hb0 hbs E0 hz0 ⊢
  have hz : (w.alloc (.cells (scells d ga gc ha hc ba bc) 31)).heap.size = w.heap.size + 1 := by simp
  rw [hz] at hb0
  clear hW0 hz
  refine ((unhide hcO) _ E0).mono ?_
  rintro e w1 ⟨rfl, F1⟩
  have hcN := hide (implNewScreen_no c r w1 hs)
  go_wp2_with fail
  refine (unhide hcN).mono ?_
  rintro e w2 ⟨rfl, F2⟩
  have hb2 := (F1.trans F2).kept hb0
  have hs2 := (F1.trans F2).size
  have f1 : ∀ o i, (w2.alloc o).frozen? ⟨w.heap.size + 1, i, none⟩ = false := fun o i => Lib.frozen_of_heap (((Ext.refl w2).alloc o).kept hb2) i
  have a0 : ∀ o, (w2.alloc o).cell? ⟨w.heap.size + 1, 0, none⟩ = some (.int .i64 0) := fun o => ((Ext.refl w2).alloc o).cell (cells_of hb2 0 _ rfl)
  have a1 : ∀ o, (w2.alloc o).cell? ⟨w.heap.size + 1, 1, none⟩ = some (.int .i64 0) := fun o => ((Ext.refl w2).alloc o).cell (cells_of hb2 1 _ rfl)
  have a2 : ∀ o, (w2.alloc o).cell? ⟨w.heap.size + 1, 2, none⟩ = some (.slice none 0 0) := fun o => ((Ext.refl w2).alloc o).cell (cells_of hb2 2 _ rfl)
  have a3 : ∀ o, (w2.alloc o).cell? ⟨w.heap.size + 1, 3, none⟩ = some (.int .i64 0) := fun o => ((Ext.refl w2).alloc o).cell (cells_of hb2 3 _ rfl)
  have a4 : ∀ o, (w2.alloc o).cell? ⟨w.heap.size + 1, 4, none⟩ = some (.int .i64 0) := fun o => ((Ext.refl w2).alloc o).cell (cells_of hb2 4 _ rfl)
  have a5 : ∀ o, (w2.alloc o).cell? ⟨w.heap.size + 1, 5, none⟩ = some (.bool false) := fun o => ((Ext.refl w2).alloc o).cell (cells_of hb2 5 _ rfl)
  have a6 : ∀ o, (w2.alloc o).cell? ⟨w.heap.size + 1, 6, none⟩ = some (.slice none 0 0) := fun o => ((Ext.refl w2).alloc o).cell (cells_of hb2 6 _ rfl)
  have a7 : ∀ o, (w2.alloc o).cell? ⟨w.heap.size + 1, 7, none⟩ = some (.slice none 0 0) := fun o => ((Ext.refl w2).alloc o).cell (cells_of hb2 7 _ rfl)
  clear hb0 hbs hb2
  unfold scrV zeroSD
  go_wp2
  refine bodyPost_ret (v := .tuple #[.agg zcells, .bool false]) (by simp [results, Tryd.results38, go_sem, a0, a1, a2, a3, a4, a5, a6, a7]) rfl ⟨rfl, ?_⟩
  refine Fr.ext (S := fun q => q = w.heap.size + 1) (w := w2.alloc (.cells zcells 31)) ?_ (((E0.trans F1).trans F2).alloc _) (fun k hk => by omega)
  repeat' first | refine Fr.setCell (S := fun q => q = w.heap.size + 1) ?_ (a := ⟨w.heap.size + 1, _, none⟩) rfl _ | exact Fr.refl _ _
set_option linter.unusedSimpArgs false in
set_option maxRecDepth 10000 in
set_option maxHeartbeats 4000000 in
theorem implResize_yes (d : SD) (gv hv bv : Value) (c r : Nat) (w : World) (h : ScrAt w d gv hv bv) (hF : d.Fits) (hT : d.Texts) (hok : OkP d) (hs : sizeB c r = true) (hc2 : c ≤ 200) (hr2 : r ≤ 100) :
    Calls Tryd.prog 38 #[scrV d gv hv bv, .int .i64 c, .int .i64 r] w fun e w' => ∃ gv' rv bv', e = .returned (.tuple #[scrV (resD d c r) gv' (.slice none 0 0) bv', .bool true]) ∧ OwnScr w' w.heap.size (resD d c r) gv' rv (.slice none 0 0) bv' ∧ Ext w w' := by
  have hcO := hide (fun U (hU : Ext w U) => implScreenOk_any d gv hv bv true (by simp [hok]) U (h.ext hU) hF)
  have hcL := hide (fun U (hU : Ext w U) => implLines_any d gv hv bv true (by simp [hok]) U (h.ext hU) hF hT)
  obtain ⟨ga, gc, ha, hc, ba, bc, rfl, rfl, rfl⟩ := h.forms
  unfold scrV at *
  clear h
  go_enter Tryd.func38, Tryd.ntmps38
  go_wp2_with fail
  have hb0 := new_block (w.alloc (.cells (scells d ga gc ha hc ba bc) 31)) (.cells zcells 31)
  have hbs := ((Ext.refl _).alloc (.cells zcells 31)).kept (new_block w (.cells (scells d ga gc ha hc ba bc) 31))
  have E0 := ((Ext.refl w).alloc (.cells (scells d ga gc ha hc ba bc) 31)).alloc (.cells zcells 31)
  have hz0 : ((w.alloc (.cells (scells d ga gc ha hc ba bc) 31)).alloc (.cells zcells 31)).heap.size = w.heap.size + 2 := by simp
  obtain ⟨W0, hW0⟩ : ∃ W0, W0 = (w.alloc (.cells (scells d ga gc ha hc ba bc) 31)).alloc (.cells zcells 31) := ⟨_, rfl⟩
  rw [← hW0] at hb0 hbs E0 hz0 ⊢
  have hz : (w.alloc (.cells (scells d ga gc ha hc ba bc) 31)).heap.size = w.heap.size + 1 := by simp
  rw [hz] at hb0
  clear hW0 hz
  refine ((unhide hcO) _ E0).mono ?_
  rintro e w1 ⟨rfl, F1⟩
  have hcN := hide (implNewScreen_yes c r w1 hs hc2 hr2)
  go_wp2_with fail
  refine (unhide hcN).mono ?_
  rintro e w2 ⟨rfl, ⟨rv, o2⟩, F2⟩
  have hbs2 := (F1.trans F2).kept hbs
  have OG := hide o2.1
  have OGlt := hide (fun g (hg : GFoot (.slice (some ⟨w1.heap.size + 1, 0, none⟩) r r) rv r g) => (o2.1.foot hg).2)
  have hs1 := F1.size
  have hs2 := F2.size
  have p0 : ∀ o, (w2.alloc o).cell? ⟨w.heap.size, 0, none⟩ = some (.int .i64 d.cols) := fun o => ((Ext.refl w2).alloc o).cell (cells_of hbs2 0 _ rfl)
  have p1 : ∀ o, (w2.alloc o).cell? ⟨w.heap.size, 1, none⟩ = some (.int .i64 d.rows) := fun o => ((Ext.refl w2).alloc o).cell (cells_of hbs2 1 _ rfl)
  have p2 : ∀ o, (w2.alloc o).cell? ⟨w.heap.size, 2, none⟩ = some (.slice ga d.R gc) := fun o => ((Ext.refl w2).alloc o).cell (cells_of hbs2 2 _ rfl)
  have p3 : ∀ o, (w2.alloc o).cell? ⟨w.heap.size, 3, none⟩ = some (.int .i64 d.row) := fun o => ((Ext.refl w2).alloc o).cell (cells_of hbs2 3 _ rfl)
  have p4 : ∀ o, (w2.alloc o).cell? ⟨w.heap.size, 4, none⟩ = some (.int .i64 d.col) := fun o => ((Ext.refl w2).alloc o).cell (cells_of hbs2 4 _ rfl)
  have p5 : ∀ o, (w2.alloc o).cell? ⟨w.heap.size, 5, none⟩ = some (.bool d.late) := fun o => ((Ext.refl w2).alloc o).cell (cells_of hbs2 5 _ rfl)
  have p6 : ∀ o, (w2.alloc o).cell? ⟨w.heap.size, 6, none⟩ = some (.slice ha d.hold.length hc) := fun o => ((Ext.refl w2).alloc o).cell (cells_of hbs2 6 _ rfl)
  have p7 : ∀ o, (w2.alloc o).cell? ⟨w.heap.size, 7, none⟩ = some (.slice ba d.nb bc) := fun o => ((Ext.refl w2).alloc o).cell (cells_of hbs2 7 _ rfl)
  clear o2 hcN hbs2
  unfold scrV blankSD
  go_wp2_with fail
  have hb3 := new_block w2 (.cells #[.int .i64 c, .int .i64 r, .slice (some ⟨w1.heap.size + 1, 0, none⟩) r r, .int .i64 0, .int .i64 0, .bool false, .slice none 0 0, .slice none 0 0] 31)
  have G3 := (Ext.refl w2).alloc (.cells #[.int .i64 c, .int .i64 r, .slice (some ⟨w1.heap.size + 1, 0, none⟩) r r, .int .i64 0, .int .i64 0, .bool false, .slice none 0 0, .slice none 0 0] 31)
  have hs3 : (w2.alloc (.cells #[.int .i64 c, .int .i64 r, .slice (some ⟨w1.heap.size + 1, 0, none⟩) r r, .int .i64 0, .int .i64 0, .bool false, .slice none 0 0, .slice none 0 0] 31)).heap.size = w2.heap.size + 1 := by simp
  obtain ⟨V3, hV3⟩ : ∃ V3, V3 = w2.alloc (.cells #[.int .i64 c, .int .i64 r, .slice (some ⟨w1.heap.size + 1, 0, none⟩) r r, .int .i64 0, .int .i64 0, .bool false, .slice none 0 0, .slice none 0 0] 31) := ⟨_, rfl⟩
  rw [← hV3] at hb3 G3 hs3 ⊢
  clear hV3 p0 p1 p2 p3 p4 p5 p6 p7
  refine ((unhide hcL) _ (((E0.trans F1).trans F2).trans G3)).mono ?_
  rintro e w4 ⟨v4, rfl, o4, F4⟩
  replace o4 : Own1 w4 V3.heap.size 9 v4 (linN d) (fun j => .string (linT d j)) := o4
  obtain ⟨sa, sc, rfl⟩ := o4.slice
  have OB := hide o4
  have hs4 := F4.size
  have T4 := F1.trans (F2.trans (G3.trans F4))
  have hb4 := T4.kept hb0
  have hq4 := F4.kept hb3
  have f1 : ∀ i, w4.frozen? ⟨w.heap.size + 1, i, none⟩ = false := fun i => Lib.frozen_of_heap hb4 i
  have f2 : ∀ i, w4.frozen? ⟨w2.heap.size, i, none⟩ = false := fun i => Lib.frozen_of_heap hq4 i
  have a0 := cells_of hb4 0 _ rfl
  have a1 := cells_of hb4 1 _ rfl
  have a2 := cells_of hb4 2 _ rfl
  have a3 := cells_of hb4 3 _ rfl
  have a4 := cells_of hb4 4 _ rfl
  have a5 := cells_of hb4 5 _ rfl
  have a6 := cells_of hb4 6 _ rfl
  have a7 := cells_of hb4 7 _ rfl
  have q0 := cells_of hq4 0 _ rfl
  have q1 := cells_of hq4 1 _ rfl
  have q2 := cells_of hq4 2 _ rfl
  have q3 := cells_of hq4 3 _ rfl
  have q4 := cells_of hq4 4 _ rfl
  have q5 := cells_of hq4 5 _ rfl
  have q6 := cells_of hq4 6 _ rfl
  have q7 := cells_of hq4 7 _ rfl
  have OG4 := hide ((unhide OG).ext (G3.trans F4))
  have hne : ¬ w.heap.size + 1 = w2.heap.size := by omega
  have hne' : ¬ w2.heap.size = w.heap.size + 1 := by omega
  clear o4 hb0 hbs hb3 hb4 hq4 hcL hcO OG
  go_wp2
  refine bodyPost_ret (v := .tuple #[scrV (resD d c r) (.slice (some ⟨w1.heap.size + 1, 0, none⟩) r r) (.slice none 0 0) (.slice sa (linN d) sc), .bool true]) (by simp [results, Tryd.results38, go_sem, scrV, resD, blankSD, a0, a1, a2, a3, a4, a5, a6, a7, q0, q1, q2, q3, q4, q5, q6, q7, hne, hne']) rfl ⟨_, rv, _, rfl, ?_⟩
  have hfr : ∀ W : World, Fr (fun q => q = w.heap.size + 1 ∨ q = w2.heap.size) w4 W → OwnScr W w.heap.size (resD d c r) (.slice (some ⟨w1.heap.size + 1, 0, none⟩) r r) rv (.slice none 0 0) (.slice sa (linN d) sc) ∧ Ext w W := by
    intro W hf
    have og := unhide OG4
    have ob := unhide OB
    refine ⟨⟨OwnGrid.base_le (og.fr hf (fun g hg e => ?_)) (by omega), owns_nil _ _ _ _, (ob.fr hf (fun g hg e => ?_)).mono (by omega)⟩, hf.ext (E0.trans T4) (fun k hk => by rcases hk with hk | hk <;> omega)⟩
    · have h1 := og.foot hg
      have h2 := (unhide OGlt) g hg
      omega
    · have := ob.lt g hg
      omega
  refine hfr _ ?_
  repeat' first | refine Fr.setCell (S := fun q => q = w.heap.size + 1 ∨ q = w2.heap.size) ?_ (a := ⟨w.heap.size + 1, _, none⟩) (.inl rfl) _ | refine Fr.setCell (S := fun q => q = w.heap.size + 1 ∨ q = w2.heap.size) ?_ (a := ⟨w2.heap.size, _, none⟩) (.inr rfl) _ | exact Fr.refl _ _
end Go.Proofs.YtlnmpbdnmlpkiaaDoor
