import Derived.Test.YtinfdhbnljnifaaGreatDoorFdF
import Derived.Test.YtinfdhbnljnifaaGreatDoorFdY
import Derived.Test.YtinfdhbnljnifaaGreatDoorToScr
import Derived.Test.YtinfdhbnljnifaaGreatDoorRowTxB
import Derived.Test.YtinfdhbnljnifaaGreatDoorFdQ
import Derived.Test.YtinfdhbnljnifaaGreatDoorFcI
namespace Go.Proofs.YtinfdhbnljnifaaGreatDoor
open Go.RowKit
structure ScrV (w : World) (base : Nat) (X : Nat → Prop) (d : SD) (gv : Value) (rv : Nat → Value) (bv : Value) : Prop where
  grid : OwnO w base 81 gv d.R rv
  row : ∀ i, i < d.R → Own2 w base 83 (rv i) (d.C i) (fun j => .string (d.tx i j)) (fun j => .bool (d.hf i j))
  apart : ∀ i j g, i < j → j < d.R → (rv i).ownBlock = some g → (rv j).ownBlock ≠ some g
  back : Own1 w base 9 bv d.nb (fun j => .string (d.bk j))
  top : base ≤ w.heap.size
  kept : ∀ k, X k → k < w.heap.size ∧ ¬ WFoot d gv rv bv k
abbrev FrV (base : Nat) (X : Nat → Prop) (w w' : World) : Prop := Fr (fun k => base ≤ k ∧ ¬ X k) w w'
section
variable {w w' : World} {F base : Nat} {X : Nat → Prop} {d : SD} {gv : Value} {rv : Nat → Value} {hv bv : Value}
theorem ScrV.foot (h : ScrV w base X d gv rv bv) {g : Nat} (hg : WFoot d gv rv bv g) : base ≤ g ∧ g < w.heap.size := by
  rcases hg with hg | ⟨i, hi, hg⟩ | hg
  · exact h.grid.lt g hg
  · exact (h.row i hi).lt g hg
  · exact h.back.lt g hg
theorem ScrV.ext (h : ScrV w base X d gv rv bv) (he : Ext w w') : ScrV w' base X d gv rv bv :=
  ⟨h.grid.ext he, fun i hi => (h.row i hi).ext he, h.apart, h.back.ext he, Nat.le_trans h.top he.size, fun k hk => ⟨Nat.lt_of_lt_of_le (h.kept k hk).1 he.size, (h.kept k hk).2⟩⟩
theorem ScrV.toW (h : ScrV w base X d gv rv bv) (hb : w.heap[F]? = some (.cells #[.int .i64 d.cols, .int .i64 d.rows, gv, .int .i64 d.row, .int .i64 d.col, .bool d.late, hv, bv] 26 (0, 0))) (hF : ¬ WFoot d gv rv bv F) : ScrW w F base X d gv rv hv bv :=
  ⟨hb, h.grid, h.row, h.apart, h.back, ⟨lt_of_block hb, hF⟩, h.top, h.kept⟩
theorem ScrW.toV (h : ScrW w F base X d gv rv hv bv) : ScrV w base X d gv rv bv := ⟨h.grid, h.row, h.apart, h.back, h.top, h.kept⟩
theorem FrW.toV {F : Nat} {w0 w w' : World} (h : FrW F base X w w') (h0 : Ext w0 w) (hF : w0.heap.size ≤ F) : FrV base X w0 w' := by
  refine ⟨h.os.trans h0.os, h.tape.trans h0.tape, h.output.trans h0.output, Nat.le_trans h0.size h.size, fun i hi hS => ?_⟩
  rw [h.block i (Nat.lt_of_lt_of_le hi h0.size) (by
    rintro (e | e)
    · omega
    · exact hS e)]
  exact h0.heap hi
structure SpB (w V : World) (d : SD) (gv hv bv : Value) : Prop where
  ext : Ext w V
  s : V.heap[w.heap.size]? = some (.cells #[.int .i64 d.cols, .int .i64 d.rows, gv, .int .i64 d.row, .int .i64 d.col, .bool d.late, hv, bv] 26 (0, 0))
  z : V.heap[w.heap.size + 1]? = some (.cells #[.int .i64 0, .int .i64 0, .slice none 0 0, .int .i64 0, .int .i64 0, .bool false, .slice none 0 0, .slice none 0 0] 26 (0, 0))
theorem sp_alloc (w : World) (d : SD) (gv hv bv : Value) : SpB w ((w.alloc (.cells #[.int .i64 d.cols, .int .i64 d.rows, gv, .int .i64 d.row, .int .i64 d.col, .bool d.late, hv, bv] 26)).alloc (.cells #[.int .i64 0, .int .i64 0, .slice none 0 0, .int .i64 0, .int .i64 0, .bool false, .slice none 0 0, .slice none 0 0] 26)) d gv hv bv := by
  refine ⟨((Ext.refl w).alloc _).alloc _, ((Ext.refl _).alloc _).kept (new_block w _), ?_⟩
  have h9 := new_block (w.alloc (.cells #[.int .i64 d.cols, .int .i64 d.rows, gv, .int .i64 d.row, .int .i64 d.col, .bool d.late, hv, bv] 26)) (.cells #[.int .i64 0, .int .i64 0, .slice none 0 0, .int .i64 0, .int .i64 0, .bool false, .slice none 0 0, .slice none 0 0] 26)
  rw [show ∀ o, (w.alloc o).heap.size = w.heap.size + 1 from fun o => by simp] at h9
  exact h9
theorem SpB.scr {V : World} (b : SpB w V d gv hv bv) (h : ScrV w base X d gv rv bv) : ScrW V w.heap.size base X d gv rv hv bv := (h.ext b.ext).toW b.s (fun hw => by have := (h.foot hw).2; omega)
theorem OwnO.cellO {W W' : World} {T : TypeId} {g k c n : Nat} {A : Nat → Value} (h : OwnO W base T (.slice (some ⟨g, k, none⟩) n c) n A) (he : Ext W W') (i : Nat) (hi : i < n) : (∃ u, W'.cell? ⟨g, k + i, none⟩ = some u) ∧ W'.frozen? ⟨g, k + i, none⟩ = false := by
  obtain ⟨g', k', c', cur, e, _, hg, _, _, _, hA⟩ := h.ext he
  simp only [Value.slice.injEq, Option.some.injEq, Addr.mk.injEq, and_true, true_and] at e
  obtain ⟨⟨rfl, rfl⟩, rfl⟩ := e
  exact ⟨⟨_, cells_of hg (k + i) _ (hA i hi)⟩, Lib.frozen_of_heap hg (k + i)⟩
theorem ScrW.keepY {Y : Nat → Prop} (h : ScrW w F base X d gv rv hv bv) (hY : ∀ k, Y k → k < w.heap.size ∧ ¬ WFoot d gv rv bv k) : ScrW w F base Y d gv rv hv bv :=
  ⟨h.box, h.grid, h.row, h.apart, h.back, h.below, h.top, hY⟩
theorem infoScr8 : (Tryz.prog.info? 26).map (·.size) = some 8 := by kernel_rfl
end
section
variable {base : Nat} {X : Nat → Prop} {d : SD} {gv : Value} {rv : Nat → Value} {hv bv : Value}
set_option maxRecDepth 10000 in
set_option maxHeartbeats 2000000 in
theorem l2Down_near (w : World) (h : ScrV w base X d gv rv bv) (ha hc : Nat) (hs : Option Addr) (hhv : hv = .slice hs ha hc) (hk : OkP d) (hn : d.row < d.rows - 1) :
    Calls Tryz.prog 40 #[scrV d gv hv bv] w fun e w' => e = .returned (scrV (d.down rowT) gv hv bv) ∧ ScrV w' base X (d.down rowT) gv rv bv ∧ FrV base X w w' := by
  have hsz := size_bd hk
  have hr := hk.row
  obtain ⟨gb, gk, gc, _, hgv, _⟩ := id h.grid
  obtain ⟨ba, bc, hbv⟩ : ∃ a c, bv = .slice a d.nb c := by obtain ⟨_, h9, _⟩ := h.back; exact owns_ln h9
  subst hgv
  subst hbv
  subst hhv
  have w1 : IntKind.i64.wrap (d.rows - 1) = d.rows - 1 := by rw [IntKind.wrap_i64] <;> omega
  have w2 : IntKind.i64.wrap (d.row + 1) = d.row + 1 := by rw [IntKind.wrap_i64] <;> omega
  have H := hide h
  have HD : Hid (d.down rowT = { d with late := false, row := d.row + 1 }) := hide (by unfold SD.down; rw [if_pos hn])
  clear h
  rw [unhide HD]
  unfold scrV
  go_enter Tryz.func40, Tryz.ntmps40
  go_wp2_with fail
  refine bodyPost_ret (v := .agg #[.int .i64 d.cols, .int .i64 d.rows, .slice (some ⟨gb, gk, none⟩) d.R gc, .int .i64 (d.row + 1), .int .i64 d.col, .bool false, .slice hs ha hc, .slice ba d.nb bc]) (by simp [results, Tryz.results40, go_sem]) rfl ⟨rfl, ?_, Fr.of_ext (((Ext.refl w).alloc _).alloc _)⟩
  have h9 := (unhide H).ext (((Ext.refl w).alloc (.cells #[.int .i64 d.cols, .int .i64 d.rows, .slice (some ⟨gb, gk, none⟩) d.R gc, .int .i64 (d.row + 1), .int .i64 d.col, .bool false, .slice hs ha hc, .slice ba d.nb bc] 26)).alloc (.cells #[.int .i64 d.cols, .int .i64 d.rows, .slice (some ⟨gb, gk, none⟩) d.R gc, .int .i64 (d.row + 1), .int .i64 d.col, .bool false, .slice hs ha hc, .slice ba d.nb bc] 26))
  exact ⟨h9.grid, h9.row, h9.apart, h9.back, h9.top, h9.kept⟩
theorem down_end {F : Nat} {X : Nat → Prop} {V w3 Y wr w6 : World} {gb gk gc gg cap i c : Nat} {xs : List Value} (hV : ScrW V F base X { d with late := false } (.slice (some ⟨gb, gk, none⟩) d.R gc) rv hv bv) (hk : OkP d) (hn : ¬ d.row < d.rows - 1)
    (hO3 : w3.ownsRow base 9 1 (.slice (some ⟨gg, 0, none⟩) (d.nb + 1) cap) (d.nb + 1) (xs ++ [.string (rowT (d.tx 0) (d.hf 0) (d.C 0))])) (hxs : ∀ j, j < d.nb → xs[j]? = some (.string (d.bk j))) (hl : xs.length = d.nb) (hF3 : Fr (fun k => bv.ownBlock = some k) V w3) (hA3 : bv.ownBlock = some gg ∨ V.heap.size ≤ gg)
    (hFY : Fr (fun k => k = F) w3 Y) (hFi : Fr (fun q => q = gb) Y wr) (hGi : OwnO wr base 81 (.slice (some ⟨gb, gk, none⟩) d.R gc) d.R (fun j => if j < i then rv (j + 1) else rv j)) (ei : i + 1 = d.R) (E7 : Ext wr w6) (ec : d.cols = c)
    (row6 : Own2 w6 wr.heap.size 83 (.slice (some ⟨wr.heap.size, 0, none⟩) c c) c (fun _ => .string noB) (fun _ => .bool false))
    (hB : wr.heap[F]? = some (.cells #[.int .i64 d.cols, .int .i64 d.rows, .slice (some ⟨gb, gk, none⟩) d.R gc, .int .i64 d.row, .int .i64 d.col, .bool false, hv, .slice (some ⟨gg, 0, none⟩) (d.nb + 1) cap] 26 (0, 0))) :
    ScrW (w6.setCell ⟨gb, gk + i, none⟩ (.slice (some ⟨wr.heap.size, 0, none⟩) c c)) F base X (d.down rowT) (.slice (some ⟨gb, gk, none⟩) d.R gc) (fun j => if j + 1 < d.R then rv (j + 1) else .slice (some ⟨wr.heap.size, 0, none⟩) c c) hv (.slice (some ⟨gg, 0, none⟩) (d.nb + 1) cap) ∧ Fr (fun k => k = F ∨ k = gb ∨ bv.ownBlock = some k) V (w6.setCell ⟨gb, gk + i, none⟩ (.slice (some ⟨wr.heap.size, 0, none⟩) c c)) := by
  have hsz := size_bd hk
  have hk2 : OkP { d with late := false } := ⟨hk.size, hk.R, hk.hold, hk.C, hk.half, hk.row, hk.col, fun e => by cases e⟩
  obtain ⟨Z, hZ⟩ : ∃ Z, Z = w6.setCell ⟨gb, gk + i, none⟩ (.slice (some ⟨wr.heap.size, 0, none⟩) c c) := ⟨_, rfl⟩
  have fZ : Fr (fun k => k = gb) w6 Z := by rw [hZ]; exact Fr.setCell (S := fun k => k = gb) (Fr.refl _ _) (a := ⟨gb, gk + i, none⟩) rfl _
  have z3 := hF3.size
  have zY := hFY.size
  have zi := hFi.size
  have z7 := E7.size
  have hgb := (hV.foot (g := gb) (.inl rfl)).2
  have hF := hV.below.1
  have hgF : gb ≠ F := fun e => hV.below.2 (.inl (by rw [← e]; rfl))
  have hggF : gg ≠ F := fun e => by
    rcases hA3 with x | x
    · exact hV.below.2 (.inr (.inr (by rw [← e]; exact x)))
    · omega
  have hgg : gg ≠ gb := fun e => by
    rcases hA3 with x | x
    · exact hV.gridBack x (by rw [e]; rfl)
    · omega
  have hall : Fr (fun k => k = F ∨ k = gb ∨ bv.ownBlock = some k) V Z :=
    Fr.tr (Fr.tr (Fr.tr (Fr.tr (hF3.mono (fun k hk => .inr (.inr hk))) (hFY.mono (fun k hk => .inl hk))) (hFi.mono (fun k hk => .inr (.inl hk)))) (Fr.of_ext E7)) (fZ.mono (fun k hk => .inr (.inl hk)))
  have ect : d.cols.toNat = c := by omega
  have hrow : Own2 Z base 83 (.slice (some ⟨wr.heap.size, 0, none⟩) c c) d.cols.toNat (fun _ => .string bz) (fun _ => .bool false) := by
    rw [ect]
    exact (row6.mono (by have := hV.top; omega : base ≤ wr.heap.size)).fr fZ (fun g hg e => by have : wr.heap.size = g := (by simpa [Value.ownBlock] using hg); omega)
  have hbk : Own1 Z base 9 (.slice (some ⟨gg, 0, none⟩) (d.nb + 1) cap) (d.nb + 1) (fun j => .string (if j = d.nb then rowT (d.tx 0) (d.hf 0) (d.C 0) else d.bk j)) := by
    have hne : ∀ (P : Nat), gg ≠ P → ∀ g, Value.ownBlock (.slice (some ⟨gg, 0, none⟩) (d.nb + 1) cap) = some g → ¬ g = P := fun P hP g hg e => by have : gg = g := (by simpa [Value.ownBlock] using hg); omega
    have h1 := fZ.owns (E7.owns (hFi.owns (hFY.owns hO3 (hne F hggF)) (hne gb hgg))) (hne gb hgg)
    refine ⟨_, h1, fun j hj => ?_⟩
    show _ = some (Value.string (if j = d.nb then rowT (d.tx 0) (d.hf 0) (d.C 0) else d.bk j))
    by_cases e : j = d.nb
    · subst e
      rw [if_pos rfl, List.getElem?_append_right (by omega), hl]
      simp
    · rw [if_neg e, List.getElem?_append_left (by omega)]
      exact hxs j (by omega)
  have hgr : OwnO Z base 81 (.slice (some ⟨gb, gk, none⟩) d.R gc) d.R (fun j => if j + 1 < d.R then rv (j + 1) else .slice (some ⟨wr.heap.size, 0, none⟩) c c) := by
    rw [hZ]
    refine ((hGi.ext E7).set i (by omega) _).congr (fun j hj => ?_)
    by_cases e : j = i
    · subst e; rw [if_pos rfl, if_neg (by omega)]
    · rw [if_neg e, if_pos (show j < i by omega), if_pos (show j + 1 < d.R by omega)]
  have hbox : Z.heap[F]? = some (.cells #[.int .i64 d.cols, .int .i64 d.rows, .slice (some ⟨gb, gk, none⟩) d.R gc, .int .i64 d.row, .int .i64 d.col, .bool false, hv, .slice (some ⟨gg, 0, none⟩) (d.nb + 1) cap] 26 (0, 0)) := fZ.kept (E7.kept hB) (fun e => hgF e.symm)
  have hfin := hV.rolled hk2 hn (.slice (some ⟨gb, gk, none⟩) d.R gc) (.slice (some ⟨wr.heap.size, 0, none⟩) c c) (.slice (some ⟨gg, 0, none⟩) (d.nb + 1) cap) hbox hgr hrow hbk (hall.mono (fun k hk => hk.imp id (fun x => x.imp (fun y => by rw [y]; rfl) id))) (.inl rfl)
    (by
      rcases hA3 with x | x
      · exact .inl (by rw [x]; rfl)
      · exact .inr (fun g hg => by have : gg = g := (by simpa [Value.ownBlock] using hg); omega))
    (fun g hg => by have : wr.heap.size = g := (by simpa [Value.ownBlock] using hg); omega)
  have ed : ({ d with late := false } : SD).down rowT = d.down rowT := by
    unfold SD.down
    rw [if_neg hn]
  rw [ed] at hfin
  rw [← hZ]
  exact ⟨hfin, hall⟩
theorem ScrV.fr {S : Nat → Prop} {w w' : World} (h : ScrV w base X d gv rv bv) (hf : Fr S w w') (hS : ∀ g, WFoot d gv rv bv g → ¬ S g) : ScrV w' base X d gv rv bv :=
  ⟨h.grid.fr hf (fun g hg => hS g (.inl hg)), fun i hi => (h.row i hi).fr hf (fun g hg => hS g (.inr (.inl ⟨i, hi, hg⟩))), h.apart, h.back.fr hf (fun g hg => hS g (.inr (.inr hg))), Nat.le_trans h.top hf.size, fun k hk => ⟨Nat.lt_of_lt_of_le (h.kept k hk).1 hf.size, (h.kept k hk).2⟩⟩
theorem ScrV.keep {Y : Nat → Prop} {w : World} (h : ScrV w base X d gv rv bv) (hY : ∀ k, Y k → X k) : ScrV w base Y d gv rv bv := ⟨h.grid, h.row, h.apart, h.back, h.top, fun k hk => h.kept k (hY k hk)⟩
set_option maxRecDepth 10000 in
set_option maxHeartbeats 4000000 in
theorem l2Down_far (w : World) (h : ScrV w base X d gv rv bv) (ha hc : Nat) (hs : Option Addr) (hhv : hv = .slice hs ha hc) (hk : OkP d) (hn : ¬ d.row < d.rows - 1) (hw : rsz (d.tx 0) (d.C 0) ≤ 1073741824) (hnb : d.nb ≤ 16777216) :
    Calls Tryz.prog 40 #[scrV d gv hv bv] w fun e w' => ∃ gv' rv' bv', e = .returned (scrV (d.down rowT) gv' hv bv') ∧ ScrV w' base X (d.down rowT) gv' rv' bv' ∧ FrV base X w w' := by
  have hsz := size_bd hk
  have hr := hk.row
  have hR := hk.R
  obtain ⟨gb, gk, gc, cur, hgv, hgb0, hgb, hgk, hgn, hgm, hgA⟩ := id h.grid
  obtain ⟨ba, bc, hbv⟩ : ∃ a c, bv = .slice a d.nb c := by obtain ⟨_, h9, _⟩ := h.back; exact owns_ln h9
  subst hgv
  subst hbv
  subst hhv
  have w1 : IntKind.i64.wrap (d.rows - 1) = d.rows - 1 := by rw [IntKind.wrap_i64] <;> omega
  have hnle : d.rows - 1 ≤ d.row := by omega
  have hRp : 0 < d.rows := by omega
  have r0 : w.cell? ⟨gb, gk, none⟩ = some (rv 0) := cells_of hgb gk _ (by have := hgA 0 (by show 0 < d.R; omega); simpa using this)
  obtain ⟨ic, hic, hc0, hc1, hc2⟩ := info_parts infoStrs
  have hb := sp_alloc w { d with late := false } (.slice (some ⟨gb, gk, none⟩) d.R gc) (.slice hs ha hc) (.slice ba d.nb bc)
  obtain ⟨V, hV⟩ : ∃ V, V = (w.alloc (.cells #[.int .i64 d.cols, .int .i64 d.rows, .slice (some ⟨gb, gk, none⟩) d.R gc, .int .i64 d.row, .int .i64 d.col, .bool false, .slice hs ha hc, .slice ba d.nb bc] 26)).alloc (.cells #[.int .i64 0, .int .i64 0, .slice none 0 0, .int .i64 0, .int .i64 0, .bool false, .slice none 0 0, .slice none 0 0] 26) := ⟨_, rfl⟩
  have hb2 : SpB w V { d with late := false } (.slice (some ⟨gb, gk, none⟩) d.R gc) (.slice hs ha hc) (.slice ba d.nb bc) := by rw [hV]; exact hb
  have hW : ScrW V w.heap.size base (fun k => X k ∨ k = w.heap.size + 1) { d with late := false } (.slice (some ⟨gb, gk, none⟩) d.R gc) rv (.slice hs ha hc) (.slice ba d.nb bc) := (hb2.scr (rv := rv) (X := X) ⟨h.grid, h.row, h.apart, h.back, h.top, h.kept⟩).keepY (fun k hk => by
    have hV9 := lt_of_block hb2.z
    rcases hk with hk | hk
    · exact ⟨by have := (h.kept k hk).1; have := hb2.ext.size; omega, (h.kept k hk).2⟩
    · exact ⟨by omega, fun hw9 => by have := (h.foot hw9).2; omega⟩)
  have HRt := hide (fun W (hW9 : Ext V W) => l2Text_big (rv 0) (d.C 0) (d.tx 0) (d.hf 0) W ((hW.ext hW9).row 0 (by show 0 < d.R; omega)).reads (by have := hk.C 0 (by omega); omega) (by omega))
  have hTU : rowU (d.tx 0) (d.hf 0) (d.C 0) = rowT (d.tx 0) (d.hf 0) (d.C 0) := lineT_U hk (by omega)
  rw [hTU] at HRt
  have u2 : V.cell? ⟨w.heap.size, 2, none⟩ = some (.slice (some ⟨gb, gk, none⟩) d.R gc) := cells_of hW.box 2 _ rfl
  have u7 : V.cell? ⟨w.heap.size, 7, none⟩ = some (.slice ba d.nb bc) := cells_of hW.box 7 _ rfl
  have r0V := hb2.ext.cell r0
  obtain ⟨xs, hown, hxs⟩ := hW.back
  have hl : xs.length = d.nb := by have := hown.1; simpa using this
  have hbz := hW.top
  have HOWN := hide hown
  have HXS := hide hxs
  have HV := hide hW
  have HSP := hide hb2
  have HVV := hide hV
  have H := hide h
  have HK := hide hk
  clear h hk hgb hgA hb hb2 hW hV hown hxs hTU r0
  unfold scrV
  go_enter Tryz.func40, Tryz.ntmps40
  go_wp2_with fail
  rw [← unhide HVV]
  clear HVV
  go_region_law (first
    | (refine step_append_lies _ (by rfl) _ _ _ (by rfl) base 9 ic _ 1 16 Tryz.underlying24 hic hc0 hc1 hc2 rfl (by omega) (.slice ba d.nb bc) d.nb xs (by rfl) (by first | exact (E'.owns (unhide HOWN)).alloc _ | exact ((E'.owns (unhide HOWN)).alloc _).drew | exact (E'.owns (unhide HOWN)).drew.alloc _ | exact ((E'.owns (unhide HOWN)).drew.alloc _).drew)
         ⟨w'.heap.size, 0, none⟩ 1 1 [.string (rowT (d.tx 0) (d.hf 0) (d.C 0))] (by rfl) (by rfl) (World.news_of_block (cs := #[.string (rowT (d.tx 0) (d.hf 0) (d.C 0))]) (t := 9) (fr := (0, 0)) (heap_alloc_new w' _)) (by simp [Value.oneCell'])
         (by omega) (by unfold maxLen; omega) (by omega) (by simp; omega) (w'.heap.size + 1) (by simp) ?_
       intro gg cap w3 hown3 hgrow hat hlt3
       have fr3 : Fr (fun k => Value.ownBlock (.slice ba d.nb bc) = some k) V w3 := Fr.grown (S := fun k => Value.ownBlock (.slice ba d.nb bc) = some k) (w := V) (Fr.of_ext (by first | exact E'.alloc _ | exact (E'.alloc _).drew | exact E'.drew.alloc _ | exact (E'.drew.alloc _).drew)) hgrow (fun k hk => hk)
       have b3 := fr3.kept (unhide HV).box (fun e => (unhide HV).below.2 (.inr (.inr e)))
       have c3 : w3.cell? ⟨w.heap.size, 7, none⟩ = some (.slice ba d.nb bc) := cells_of b3 7 _ rfl
       have f3 : w3.frozen? ⟨w.heap.size, 7, none⟩ = false := Lib.frozen_of_heap b3 7
       have hat2 : Value.ownBlock (.slice ba d.nb bc) = some gg ∨ V.heap.size ≤ gg := hat.imp id (fun e => by omega)
       have HO3 := hide hown3
       have HF3 := hide fr3
       have HB3 := hide b3
       have HA3 := hide hat2
       clear b3 hown3 hgrow fr3 hat hat2)
    | (go_simp; go_at_call 93; refine ((unhide HRt) V.drew (Ext.refl _).drew).mono ?_; rintro e w' ⟨rfl, E0⟩; have E' : Ext V w' := (Ext.refl V).drew.trans E0; have hsz' := E'.size; have c7 := E'.cell u7; have c7n : ∀ o, (w'.alloc o).cell? ⟨w.heap.size, 7, none⟩ = some (.slice ba d.nb bc) := fun o => ((Ext.refl w').alloc o).cell c7; clear E0))
  all_goals
    obtain ⟨Y, hY⟩ : ∃ Y, Y = w3.setCell ⟨w.heap.size, 7, none⟩ (.slice (some ⟨gg, 0, none⟩) (d.nb + 1) cap) := ⟨_, rfl⟩
    have fY : Fr (fun k => k = w.heap.size) w3 Y := by rw [hY]; exact Fr.setCell (S := fun k => k = w.heap.size) (Fr.refl _ _) (a := ⟨w.heap.size, 7, none⟩) rfl _
    have bY : Y.heap[w.heap.size]? = some (.cells #[.int .i64 d.cols, .int .i64 d.rows, .slice (some ⟨gb, gk, none⟩) d.R gc, .int .i64 d.row, .int .i64 d.col, .bool false, .slice hs ha hc, .slice (some ⟨gg, 0, none⟩) (d.nb + 1) cap] 26 (0, 0)) := by rw [hY]; exact set_blk2 (unhide HB3) rfl
    have gY : OwnO Y base 81 (.slice (some ⟨gb, gk, none⟩) d.R gc) d.R rv := ((unhide HV).grid.fr (unhide HF3) (fun g hg e => (unhide HV).gridBack e hg)).fr fY (fun g hg e => (unhide HV).below.2 (.inl (e ▸ hg)))
    have hgF : gb ≠ w.heap.size := fun e => (unhide HV).below.2 (.inl (by rw [← e]; rfl))
    have HY := hide hY
    have HFY := hide fY
    have HBY := hide bY
    have HG0 : Hid (OwnO Y base 81 (.slice (some ⟨gb, gk, none⟩) d.R gc) d.R (fun j => if j < 0 then rv (j + 1) else rv j)) := hide (gY.congr (fun j _ => by rw [if_neg (by omega)]))
    clear hY fY bY gY
    go_wp2_with fail
    rw [← unhide HY]
    clear HY c3 f3
    go_loopw [3] (fun v wr => ∃ i : Nat, i + 1 ≤ d.R ∧ v = .int .i64 i ∧ Hid (OwnO wr base 81 (.slice (some ⟨gb, gk, none⟩) d.R gc) d.R (fun j => if j < i then rv (j + 1) else rv j)) ∧ Hid (wr.heap[w.heap.size]? = some (.cells #[.int .i64 d.cols, .int .i64 d.rows, .slice (some ⟨gb, gk, none⟩) d.R gc, .int .i64 d.row, .int .i64 d.col, .bool false, .slice hs ha hc, .slice (some ⟨gg, 0, none⟩) (d.nb + 1) cap] 26 (0, 0))) ∧ Hid (Fr (fun q => q = gb) Y wr)) (fun v _ => d.R - (intOf v).toNat)
    case atStart => exact ⟨0, by omega, rfl, HG0, HBY, hide (Fr.refl _ _)⟩
    case round =>
      clear HG0
      obtain ⟨i, hi, rfl, HGi, HBi, HFi⟩ := hrel
      have e1 : wr.cell? ⟨w.heap.size, 1, none⟩ = some (.int .i64 d.rows) := cells_of (unhide HBi) 1 _ rfl
      have e2 : wr.cell? ⟨w.heap.size, 2, none⟩ = some (.slice (some ⟨gb, gk, none⟩) d.R gc) := cells_of (unhide HBi) 2 _ rfl
      have wi : IntKind.i64.wrap ((i : Int) + 1) = (i : Int) + 1 := by rw [IntKind.wrap_i64] <;> omega
      by_cases hlt : i + 1 < d.R
      · have bi : (i : Int) + 1 < d.rows := by omega
        obtain ⟨g9, k9, c9, cur9, he9, _, hb9, hk9, hn9, _, hA9⟩ := id (unhide HGi)
        simp only [Value.slice.injEq, Option.some.injEq, Addr.mk.injEq, and_true, true_and] at he9
        obtain ⟨⟨rfl, rfl⟩, rfl⟩ := he9
        have x1 := hA9 (i + 1) hlt
        dsimp only at x1
        rw [if_neg (by omega)] at x1
        have x0 := hA9 i (by omega)
        have g1 : wr.cell? ⟨gb, gk + (i + 1), none⟩ = some (rv (i + 1)) := cells_of hb9 (gk + (i + 1)) _ x1
        obtain ⟨old, g0⟩ : ∃ o, wr.cell? ⟨gb, gk + i, none⟩ = some o := ⟨_, cells_of hb9 (gk + i) _ x0⟩
        have g0f : wr.frozen? ⟨gb, gk + i, none⟩ = false := Lib.frozen_of_heap hb9 (gk + i)
        obtain ⟨ra, rn, rc, hrv⟩ : ∃ a n c, rv (i + 1) = .slice a n c := by
          rcases ((unhide HV).row (i + 1) hlt).form with ⟨e, _⟩ | ⟨g, cap, e⟩
          · exact ⟨_, _, _, e⟩
          · exact ⟨_, _, _, e⟩
        have hset := (unhide HGi).set i (by omega) (rv (i + 1))
        have fs : Fr (fun q => q = gb) wr (wr.setCell ⟨gb, gk + i, none⟩ (rv (i + 1))) := Fr.setCell (S := fun q => q = gb) (Fr.refl _ _) (a := ⟨gb, gk + i, none⟩) rfl _
        have HGn : Hid (OwnO (wr.setCell ⟨gb, gk + i, none⟩ (rv (i + 1))) base 81 (.slice (some ⟨gb, gk, none⟩) d.R gc) d.R (fun j => if j < i + 1 then rv (j + 1) else rv j)) := hide (hset.congr (fun j hj => by
          by_cases e : j = i
          · subst e; rw [if_pos rfl, if_pos (by omega)]
          · rw [if_neg e]
            by_cases e' : j < i
            · rw [if_pos e', if_pos (by omega)]
            · rw [if_neg e', if_neg (by omega)]))
        have hBn := fs.kept (unhide HBi) (fun e => hgF e.symm)
        have HBn := hide hBn
        have HFn := hide (Fr.tr (unhide HFi) fs)
        rw [hrv] at g1 HGn HBn HFn
        have p2 : (wr.setCell ⟨gb, gk + i, none⟩ (.slice ra rn rc)).cell? ⟨w.heap.size, 2, none⟩ = some (.slice (some ⟨gb, gk, none⟩) d.R gc) := cells_of (unhide HBn) 2 _ rfl
        have p1 : (wr.setCell ⟨gb, gk + i, none⟩ (.slice ra rn rc)).cell? ⟨gb, gk + (i + 1), none⟩ = some (.slice ra rn rc) := by
          have h9 := (unhide HGn).reads
          obtain ⟨_, _, e9, _, hx9⟩ := h9
          simp only [Value.slice.injEq, true_and] at e9
          obtain ⟨e10, _⟩ := e9
          subst e10
          obtain ⟨b', o', e11, hc9⟩ := hx9 (by omega)
          simp only [Option.some.injEq, Addr.mk.injEq, and_true] at e11
          obtain ⟨rfl, rfl⟩ := e11
          have := hc9 (i + 1) hlt
          dsimp only at this
          rw [if_neg (by omega), hrv] at this
          exact this
        have bi2 : (i : Int) < d.rows := by omega
        have bi3 : (0 : Int) ≤ (i : Int) := by omega
        have bi4 : (0 : Int) ≤ (i : Int) + 1 := by omega
        have bi5 : ((i : Int) + 1).toNat = i + 1 := by omega
        clear hset fs hb9 hA9 x1 x0 hBn HGi HBi HFi hk9 hn9
        go_wp2_with fail
        go_region_held3 (fun W => W.cell? ⟨w.heap.size, 2, none⟩ = some (.slice (some ⟨gb, gk, none⟩) d.R gc) ∧ W.cell? ⟨gb, gk + (i + 1), none⟩ = some (.slice ra rn rc)) (first | exact ⟨p2, p1⟩ | exact ⟨e2, g1⟩) (first | fail)
        have DR := (Ext.refl (wr.setCell ⟨gb, gk + i, none⟩ (.slice ra rn rc))).drew
        go_wp2
        go_roundw
        case rel => exact ⟨i + 1, by omega, by go_num, hide ((unhide HGn).ext DR), hide (DR.kept (unhide HBn)), hide (Fr.tr (unhide HFn) (Fr.of_ext DR))⟩
        case measure => simp [intOf]; omega
      · have ei : i + 1 = d.R := by omega
        have bi : ¬ (i : Int) + 1 < d.rows := by omega
        have e0 : wr.cell? ⟨w.heap.size, 0, none⟩ = some (.int .i64 d.cols) := cells_of (unhide HBi) 0 _ rfl
        have HG9 : Hid (OwnO wr base 81 (.slice (some ⟨gb, gk, none⟩) d.R gc) d.R (fun j => if j < i then rv (j + 1) else rv j)) := HGi
        obtain ⟨c, ec⟩ : ∃ c : Nat, d.cols = c := ⟨d.cols.toNat, by omega⟩
        have HBl := hide (fun W => l2Blank_any c W (by omega))
        rw [ec] at e0
        have ei2 : d.rows - 1 = (i : Int) := by omega
        rw [ei2] at w1
        have bi2 : (i : Int) < d.rows := by omega
        have bi3 : (0 : Int) ≤ (i : Int) := by omega
        have HCG := hide (fun W (hW9 : Ext wr W) => (unhide HGi).cellO hW9 i (by omega))
        go_wp2_with fail
        go_region_held3 (fun W => W.cell? ⟨w.heap.size, 2, none⟩ = some (.slice (some ⟨gb, gk, none⟩) d.R gc) ∧ W.cell? ⟨w.heap.size, 1, none⟩ = some (.int .i64 d.rows) ∧ W.cell? ⟨w.heap.size, 0, none⟩ = some (.int .i64 c)) (first | exact ⟨p2, p1, p0⟩ | exact ⟨q2, q1, q0⟩ | exact ⟨e2, e1, e0⟩) (first
          | (go_at_call 91
             refine ((unhide HBl) wr.drew).mono ?_
             rintro e w6 ⟨rfl, row6, E6⟩
             have E7 : Ext wr w6 := (Ext.refl wr).drew.trans E6
             have q2 := E7.cell e2
             have q1 := E7.cell e1
             have q0 := E7.cell e0
             obtain ⟨⟨old, k6⟩, k6f⟩ := (unhide HCG) w6 E7
             have fs := fun u => Fr.setCell (S := fun q => q = gb) (Fr.refl (fun q => q = gb) w6) (a := ⟨gb, gk + i, none⟩) rfl u
             have bx := fun u => (fs u).kept (E7.kept (unhide HBi)) (fun e => hgF e.symm)
             have p2 := cells_of (bx (.slice (some ⟨wr.heap.size, 0, none⟩) c c)) 2 _ rfl
             have p1 := cells_of (bx (.slice (some ⟨wr.heap.size, 0, none⟩) c c)) 1 _ rfl
             have p0 : (w6.setCell ⟨gb, gk + i, none⟩ (.slice (some ⟨wr.heap.size, 0, none⟩) c c)).cell? ⟨w.heap.size, 0, none⟩ = some (.int .i64 c) := (by rw [← ec]; exact cells_of (bx (.slice (some ⟨wr.heap.size, 0, none⟩) c c)) 0 _ rfl)
             have HR6 := hide row6
             have HE7 := hide E7
             clear row6 E6 E7 fs bx))
        have hQ := down_end (unhide HV) (unhide HK) (by omega) (unhide HO3) (unhide HXS) hl (unhide HF3) (unhide HA3) (unhide HFY) (unhide HFi) (unhide HGi) ei (unhide HE7) ec (unhide HR6) (unhide HBi)
        obtain ⟨Q, hQQ⟩ : ∃ Q, Q = w6.setCell ⟨gb, gk + i, none⟩ (.slice (some ⟨wr.heap.size, 0, none⟩) c c) := ⟨_, rfl⟩
        rw [← hQQ] at hQ ⊢
        have hz : Q.heap[w.heap.size + 1]? = some (.cells #[.int .i64 0, .int .i64 0, .slice none 0 0, .int .i64 0, .int .i64 0, .bool false, .slice none 0 0, .slice none 0 0] 26 (0, 0)) := hQ.2.kept (unhide HSP).z (by
          rintro (x | x | x)
          · omega
          · exact ((unhide HV).kept _ (.inr rfl)).2 (.inl (by rw [x]; rfl))
          · exact ((unhide HV).kept _ (.inr rfl)).2 (.inr (.inr x)))
        have HQ := hide hQ
        have HQB := hide hQ.1.box
        have HQZ := hide hz
        clear hQ hz hQQ p2 p1 p0 q2 q1 q0 k6 k6f HCG HBl e0 e1 e2
        go_wp2_with (first
          | (refine wpList_load_blk rfl 26 _ rfl w.heap.size rfl _ _ _ _ (unhide HQB) Tryz.underlying26 rfl infoScr8 ?_)
          | (refine wpList_store_blk rfl 26 _ _ rfl rfl (w.heap.size + 1) rfl _ _ _ rfl (unhide HQZ) infoScr8 rfl (by simp [Value.oneCell']) ?_; intro X9 HX9 hX9; have HXB := hide HX9; have HXF := hide hX9; clear HX9 hX9))
        have v0 := cells_of (unhide HXB) 0 _ rfl
        have v1 := cells_of (unhide HXB) 1 _ rfl
        have v2 := cells_of (unhide HXB) 2 _ rfl
        have v3 := cells_of (unhide HXB) 3 _ rfl
        have v4 := cells_of (unhide HXB) 4 _ rfl
        have v5 := cells_of (unhide HXB) 5 _ rfl
        have v6 := cells_of (unhide HXB) 6 _ rfl
        have v7 := cells_of (unhide HXB) 7 _ rfl
        have hV9 := (unhide HQ).1.toV.fr (unhide HXF) (fun g hg e => ((unhide HQ).1.kept g (.inr e)).2 hg)
        refine bodyPost_ret (v := scrV (d.down rowT) (.slice (some ⟨gb, gk, none⟩) d.R gc) (.slice hs ha hc) (.slice (some ⟨gg, 0, none⟩) (d.nb + 1) cap)) (by unfold scrV; simp [results, Tryz.results40, go_sem, v0, v1, v2, v3, v4, v5, v6, v7]) rfl ⟨_, _, _, rfl, hV9.keep (fun k hk => .inl hk), ?_⟩
        have hsp := (unhide HSP).ext
        have hf9 : Fr (fun k => k = w.heap.size ∨ k = gb ∨ Value.ownBlock (.slice ba d.nb bc) = some k ∨ k = w.heap.size + 1) V X9 := Fr.tr ((unhide HQ).2.mono (fun k hk => by
          rcases hk with x | x | x
          · exact .inl x
          · exact .inr (.inl x)
          · exact .inr (.inr (.inl x)))) ((unhide HXF).mono (fun k hk => .inr (.inr (.inr hk))))
        refine ⟨hf9.os.trans hsp.os, hf9.tape.trans hsp.tape, hf9.output.trans hsp.output, Nat.le_trans hsp.size hf9.size, fun k hk hS => ?_⟩
        rw [hf9.block k (Nat.lt_of_lt_of_le hk hsp.size) (by
          rintro (x | x | x | x)
          · omega
          · exact hS ⟨by rw [x]; exact hgb0, fun hx => ((unhide H).kept k hx).2 (.inl (by rw [x]; rfl))⟩
          · exact hS ⟨((unhide H).foot (.inr (.inr x))).1, fun hx => ((unhide H).kept k hx).2 (.inr (.inr x))⟩
          · omega)]
        exact hsp.heap hk
end
end Go.Proofs.YtinfdhbnljnifaaGreatDoor

namespace Go.Proofs.YtinfdhbnljnifaaGreatDoor
open Go.RowKit
theorem OwnGrid.push {wr w' w3 : World} {base j g cap : Nat} {gv : Value} {rv : Nat → Value} {C : Nat → Nat} {A B : Nat → Nat → Value} {xs : List Value} {u : Value} (og : OwnGrid wr base gv rv j C A B) (hxs : ∀ i, i < j → xs[i]? = some (rv i)) (hl : xs.length = j) (E : Ext wr w') (row : Own2 w' base 83 u (C j) (A j) (B j)) (hu : ∀ q, u.ownBlock = some q → wr.heap.size ≤ q)
    (fr : Fr (fun k => gv.ownBlock = some k) w' w3) (hown : w3.ownsRow base 81 1 (.slice (some ⟨g, 0, none⟩) (j + 1) cap) (j + 1) (xs ++ [u])) :
    OwnGrid w3 base (.slice (some ⟨g, 0, none⟩) (j + 1) cap) (fun i => if i = j then u else rv i) (j + 1) C A B := by
  have fr1 : Fr (fun k => gv.ownBlock = some k) wr w3 := (Fr.of_ext E).trans fr
  refine ⟨⟨_, hown, fun i hi => ?_⟩, fun i hi => ?_, fun i i' k hii hi hk => ?_⟩
  · dsimp only
    by_cases e : i = j
    · subst e
      rw [if_pos rfl, List.getElem?_append_right (by omega), hl]
      simp
    · rw [if_neg e, List.getElem?_append_left (by omega)]
      exact hxs i (by omega)
  · dsimp only
    by_cases e : i = j
    · subst e
      rw [if_pos rfl]
      exact row.fr fr (fun k hk e => by have := hu k hk; have := (og.1.lt k e).2; omega)
    · rw [if_neg e]
      exact (og.2.1 i (by omega)).fr fr1 (fun k hk e => og.apart (by omega) hk e)
  · dsimp only at hk ⊢
    rw [if_neg (by omega)] at hk
    by_cases e : i' = j
    · subst e
      rw [if_pos rfl]
      intro h9
      have := ((og.2.1 i (by omega)).lt k hk).2
      have := hu k h9
      omega
    · rw [if_neg e]
      exact og.2.2 i i' k hii (by omega) hk
set_option maxRecDepth 10000 in
set_option maxHeartbeats 4000000 in
theorem l2Copy_any (d : SD) (gv hv bv : Value) (w : World) (h : ScrAt w d gv hv bv) (hF : d.Fits) :
    Calls Tryz.prog 36 #[scrV d gv hv bv] w fun e w' => ∃ gv' rv hv' bv', e = .returned (scrV d gv' hv' bv') ∧ OwnScr w' w.heap.size d gv' rv hv' bv' ∧ Ext w w' := by
  obtain ⟨f1, f2, f3, f4⟩ := hF
  obtain ⟨ir, hir, hr0, hr1, hr2⟩ := info_parts infoRow
  obtain ⟨ic, hic, hc0, hc1, hc2⟩ := info_parts infoCell
  have HH := hide h
  have HF2 := hide f2
  obtain ⟨rw0, ⟨ga, gc, rfl, hgc, hgx⟩, hrows⟩ := h.1
  obtain ⟨ha, hc, rfl, hhc, hhx⟩ := h.2.1
  obtain ⟨ba, bc, rfl, hbc, hbx⟩ := h.2.2
  have HX := hide hgx
  have HRW := hide hrows
  clear h f2 hgx hrows hhx hbx
  have hb0 := sp_alloc w d (.slice ga d.R gc) (.slice ha d.hold.length hc) (.slice ba d.nb bc)
  obtain ⟨V0, hV0⟩ : ∃ V, V = (w.alloc (.cells #[.int .i64 d.cols, .int .i64 d.rows, .slice ga d.R gc, .int .i64 d.row, .int .i64 d.col, .bool d.late, .slice ha d.hold.length hc, .slice ba d.nb bc] 26)).alloc (.cells #[.int .i64 0, .int .i64 0, .slice none 0 0, .int .i64 0, .int .i64 0, .bool false, .slice none 0 0, .slice none 0 0] 26) := ⟨_, rfl⟩
  rw [← hV0] at hb0
  have zV0 : V0.heap.size = w.heap.size + 2 := by rw [hV0]; simp
  obtain ⟨V, hV⟩ : ∃ V, V = V0.alloc (.cells #[] 81) := ⟨_, rfl⟩
  have EV : Ext V0 V := by rw [hV]; exact (Ext.refl _).alloc _
  have zV : V.heap.size = w.heap.size + 3 := by rw [hV]; simp [zV0]
  have HB0 : Hid (SpB w V d (.slice ga d.R gc) (.slice ha d.hold.length hc) (.slice ba d.nb bc)) := hide ⟨hb0.ext.trans EV, EV.kept hb0.s, EV.kept hb0.z⟩
  have HG0 : Hid (OwnGrid V (w.heap.size + 2) (.slice (some ⟨w.heap.size + 1 + 1, 0, none⟩) 0 0) (fun _ => .slice none 0 0) 0 d.C (fun i j => .string (d.tx i j)) (fun i j => .bool (d.hf i j))) := hide ⟨⟨[], by have h9 := owns_empty V0 81 1; rw [← hV, zV0] at h9; exact h9, fun j hj => by omega⟩, fun i hi => by omega, fun i i' k _ hi => by omega⟩
  have HVV : Hid (V = ((w.alloc (.cells #[.int .i64 d.cols, .int .i64 d.rows, .slice ga d.R gc, .int .i64 d.row, .int .i64 d.col, .bool d.late, .slice ha d.hold.length hc, .slice ba d.nb bc] 26)).alloc (.cells #[.int .i64 0, .int .i64 0, .slice none 0 0, .int .i64 0, .int .i64 0, .bool false, .slice none 0 0, .slice none 0 0] 26)).alloc (.cells #[] 81)) := hide (by rw [hV, hV0])
  clear hb0 hV0 hV EV zV0
  unfold scrV
  go_enter Tryz.func36, Tryz.ntmps36
  go_wp2_with fail
  rw [← unhide HVV]
  clear HVV
  go_loopw [3, 4] (fun gvj i wr => ∃ (j : Nat) (rv : Nat → Value), j ≤ d.R ∧ i = .int .i64 j ∧ Hid (OwnGrid wr (w.heap.size + 2) gvj rv j d.C (fun i j => .string (d.tx i j)) (fun i j => .bool (d.hf i j))) ∧ Hid (SpB w wr d (.slice ga d.R gc) (.slice ha d.hold.length hc) (.slice ba d.nb bc)) ∧ w.heap.size + 3 ≤ wr.heap.size) (fun _ i _ => d.R - (intOf i).toNat)
  case atStart => exact ⟨0, _, Nat.zero_le _, rfl, HG0, HB0, by omega⟩
  case round =>
    clear HG0 HB0 zV
    obtain ⟨j, rv, hj, rfl, HP, HB, hz⟩ := hrel
    have m2 : wr.cell? ⟨w.heap.size, 2, none⟩ = some (.slice ga d.R gc) := cells_of (unhide HB).s 2 _ rfl
    by_cases hlt : j < d.R
    · have bj : (j : Int) < (d.R : Int) := by omega
      obtain ⟨b, off, rfl, hcl⟩ := (unhide HX) (by omega)
      have g1 := (unhide HB).ext.cell (hcl j hlt)
      have m2a : ∀ o, (wr.alloc o).cell? ⟨w.heap.size, 2, none⟩ = some (.slice (some ⟨b, off, none⟩) d.R gc) := fun o => ((Ext.refl wr).alloc o).cell m2
      have g1a : ∀ o, (wr.alloc o).cell? ⟨b, off + j, none⟩ = some (rw0 j) := fun o => ((Ext.refl wr).alloc o).cell g1
      obtain ⟨V, hV⟩ : ∃ V, V = wr.alloc (.cells #[] 83) := ⟨_, rfl⟩
      have E0 : Ext wr V := by rw [hV]; exact (Ext.refl wr).alloc _
      have hz0 : V.heap.size = wr.heap.size + 1 := by rw [hV]; simp
      have HE0 : Hid (V.ownsRow wr.heap.size 83 2 (.slice (some ⟨wr.heap.size, 0, none⟩) 0 0) 0 []) := hide (by rw [hV]; exact owns_empty wr _ _)
      have HVV := hide hV
      have HSR := hide ((Src.cells (((unhide HRW) j hlt).ext (unhide HB).ext)).ext E0)
      have hCj := (unhide HF2) j hlt
      obtain ⟨ca, cn, cc, hsv⟩ : ∃ ca cn cc, rw0 j = .slice ca cn cc := by
        obtain ⟨x, y, e, _⟩ := (unhide HRW) j hlt
        exact ⟨_, _, _, e⟩
      obtain ⟨xs, hown, hxs⟩ := (unhide HP).1
      have hl : xs.length = j := by have := hown.1; omega
      have HOWN := hide hown
      have HXS := hide hxs
      have HEV := hide E0
      clear hcl hV hown hxs E0
      have m2V : V.cell? ⟨w.heap.size, 2, none⟩ = some (.slice (some ⟨b, off, none⟩) d.R gc) := (unhide HEV).cell m2
      have g1V : V.cell? ⟨b, off + j, none⟩ = some (rw0 j) := (unhide HEV).cell g1
      have HSv : Hid (rw0 j = .slice ca (d.C j) cc) := hide (by
        obtain ⟨x, y, e, _⟩ := (unhide HRW) j hlt
        rw [e] at hsv
        obtain ⟨h1, h2, h3⟩ := Value.slice.inj hsv
        rw [e, h1, h3])
      go_wp2_with (at_builtin; refine StopQ.intro ?_)
      show wpList _ _ _ _ _ _
      rw [← unhide HVV]
      clear HVV m2a g1a m2V g1V
      refine wpList_app rfl _ _ 81 rfl wr.heap.size 83 ic (.agg #[.string noB, .bool false]) 2 24 Tryz.underlying81 hic hc0 hc1 hc2 rfl (by decide) _ 0 [] rfl (unhide HE0) (rw0 j) (d.C j) (pairsL (fun q => .string (d.tx j q)) (fun q => .bool (d.hf j q)) (d.C j)) (by first | rfl | exact hsv.symm) (unhide HSR) (by unfold maxLen; omega) (by omega) (by omega) ?_
      intro v5 w5 o5 G5 _
      rw [Nat.zero_add, List.nil_append] at o5
      obtain ⟨a5, c5, rfl⟩ := owns_ln o5
      have E5 : Ext wr w5 := Ext.grown (unhide HEV) G5 (fun k hk => by cases hk; exact Nat.le_refl _)
      obtain ⟨Z, hZ⟩ : ∃ Z, Z = w5.alloc (.cells #[.slice a5 (d.C j) c5] 81) := ⟨_, rfl⟩
      have EZ : Ext w5 Z := by rw [hZ]; exact (Ext.refl w5).alloc _
      have HO5 := hide (EZ.owns o5)
      have HE5 := hide (E5.trans EZ)
      have HSZ : Hid (Src Z 1 (.slice (some ⟨w5.heap.size, 0, none⟩) 1 1) 1 [.slice a5 (d.C j) c5]) := hide (by rw [hZ]; exact Src.made _ _ _ rfl (by simp [Value.oneCell']))
      have HZZ := hide hZ
      have zZ := (E5.trans EZ).size
      clear o5 G5 E5 EZ hZ HE0 HSR
      go_wp2_with (at_builtin; refine StopQ.intro ?_)
      show wpList _ _ _ _ _ _
      rw [← unhide HZZ]
      clear HZZ
      refine wpList_app rfl _ _ 23 rfl (w.heap.size + 2) 81 ir (.slice none 0 0) 1 24 Tryz.underlying23 hir hr0 hr1 hr2 rfl (by decide) _ j xs rfl ((unhide HE5).owns (unhide HOWN)) _ 1 [.slice a5 (d.C j) c5] rfl (unhide HSZ) (by unfold maxLen; omega) (by omega) (by omega) ?_
      intro v6 w6 o6 G6 hne
      obtain ⟨g6, c6, rfl⟩ : ∃ g c, v6 = .slice (some ⟨g, 0, none⟩) (j + 1) c := by
        rcases o6.2 with ⟨_, e0⟩ | ⟨g, cap9, cur, e, _⟩
        · omega
        · exact ⟨g, _, e⟩
      have fr6 : Fr (fun k => Value.ownBlock u3 = some k) Z w6 := Fr.grown (S := fun k => Value.ownBlock u3 = some k) (Fr.refl _ Z) G6 (fun k hk => hk)
      have hrow5 := own2_pairs (unhide HO5)
      have HP6 := hide ((unhide HP).push (unhide HXS) hl (unhide HE5) (hrow5.mono (by omega)) (fun q hq => (hrow5.lt q hq).1) fr6 o6)
      have hnb : ∀ k, k < w.heap.size + 2 → ¬ Value.ownBlock u3 = some k := fun k hk e => by have := ((unhide HP).1.lt k e).1; omega
      have HB6 : Hid (SpB w w6 d (.slice (some ⟨b, off, none⟩) d.R gc) (.slice ha d.hold.length hc) (.slice ba d.nb bc)) := hide ⟨fr6.ext ((unhide HB).ext.trans (unhide HE5)) (fun q hq => by have := ((unhide HP).1.lt q hq).1; omega), fr6.kept ((unhide HE5).kept (unhide HB).s) (hnb _ (by omega)), fr6.kept ((unhide HE5).kept (unhide HB).z) (hnb _ (by omega))⟩
      have hz6 : w.heap.size + 3 ≤ w6.heap.size := by have := fr6.size; omega
      clear o6 G6 fr6 hrow5 hnb
      go_wp2
      go_roundw
      case rel => exact ⟨j + 1, _, by omega, by go_num, HP6, HB6, hz6⟩
      case measure => simp [intOf]; omega
    · obtain rfl : j = d.R := by omega
      have hb9 : ¬ (d.R : Int) < (d.R : Int) := by omega
      obtain ⟨g3, c3, hgv3⟩ : ∃ a c, u3 = .slice a d.R c := by
        obtain ⟨_, h9, _⟩ := (unhide HP).1
        exact owns_ln h9
      subst hgv3
      obtain ⟨i8, hi8, h80, h81, h82⟩ := info_parts infoByteA
      obtain ⟨i9, hi9, h90, h91, h92⟩ := info_parts infoStrs
      obtain ⟨U1, hU1⟩ : ∃ U, U = wr.alloc (.cells #[] 5) := ⟨_, rfl⟩
      obtain ⟨U2, hU2⟩ : ∃ U, U = U1.alloc (.cells #[] 9) := ⟨_, rfl⟩
      have EU1 : Ext wr U1 := by rw [hU1]; exact (Ext.refl wr).alloc _
      have EU2 : Ext U1 U2 := by rw [hU2]; exact (Ext.refl U1).alloc _
      have zU1 : U1.heap.size = wr.heap.size + 1 := by rw [hU1]; simp
      have zU2 : U2.heap.size = wr.heap.size + 2 := by rw [hU2]; simp [zU1]
      have oH : U2.ownsRow wr.heap.size 5 1 (.slice (some ⟨wr.heap.size, 0, none⟩) 0 0) 0 [] := EU2.owns (by rw [hU1]; exact owns_empty wr _ _)
      have oB : U2.ownsRow wr.heap.size 9 1 (.slice (some ⟨wr.heap.size + 1, 0, none⟩) 0 0) 0 [] := owns_mono (by have h9 := owns_empty U1 9 1; rw [← hU2, zU1] at h9; exact h9) (by omega)
      have bU := (EU1.trans EU2).kept (unhide HB).s
      have bZ := (EU1.trans EU2).kept (unhide HB).z
      obtain ⟨U, hU⟩ : ∃ U, U = U2.setCell ⟨w.heap.size, 2, none⟩ (.slice g3 d.R c3) := ⟨_, rfl⟩
      have fU : Fr (fun q => q = w.heap.size) U2 U := by rw [hU]; exact Fr.setCell (S := fun q => q = w.heap.size) (Fr.refl _ _) (a := ⟨w.heap.size, 2, none⟩) rfl _
      have EU : Ext w U := fU.ext ((unhide HB).ext.trans (EU1.trans EU2)) (fun q hq => by omega)
      have HBU : Hid (U.heap[w.heap.size]? = some (.cells #[.int .i64 d.cols, .int .i64 d.rows, .slice g3 d.R c3, .int .i64 d.row, .int .i64 d.col, .bool d.late, .slice ha d.hold.length hc, .slice ba d.nb bc] 26 (0, 0))) := hide (by rw [hU]; exact set_blk2 bU rfl)
      have HBZ := hide (fU.kept bZ (by omega))
      have HoH := hide (fU.owns oH (fun g hg e => by have := (oH.lt g hg).1; omega))
      have HoB := hide (fU.owns oB (fun g hg e => by have := (oB.lt g hg).1; omega))
      have HGU := hide ((((unhide HP).ext (EU1.trans EU2))).fr fU (fun g hg e => by have := ((unhide HP).foot hg).1; omega))
      have HUU : Hid (U = ((wr.alloc (.cells #[] 5)).alloc (.cells #[] 9)).setCell ⟨w.heap.size, 2, none⟩ (.slice g3 d.R c3)) := hide (by rw [hU, hU2, hU1])
      have m2a : ∀ o o', ((wr.alloc o).alloc o').cell? ⟨w.heap.size, 2, none⟩ = some (.slice ga d.R gc) := fun o o' => (((Ext.refl wr).alloc o).alloc o').cell m2
      have m2f : ∀ o o', ((wr.alloc o).alloc o').frozen? ⟨w.heap.size, 2, none⟩ = false := fun o o' => Lib.frozen_of_heap ((((Ext.refl wr).alloc o).alloc o').kept (unhide HB).s) 2
      have s6 : (((wr.alloc (.cells #[] 5)).alloc (.cells #[] 9)).setCell ⟨w.heap.size, 2, none⟩ (.slice g3 d.R c3)).cell? ⟨w.heap.size, 6, none⟩ = some (.slice ha d.hold.length hc) := by rw [← unhide HUU]; exact cells_of (unhide HBU) 6 _ rfl
      have HEU := hide EU
      have zU : U2.heap.size ≤ U.heap.size := fU.size
      clear hU hU1 hU2 EU1 EU2 oH oB bU bZ fU EU
      go_wp2_with (at_builtin; refine StopQ.intro ?_)
      show wpList _ _ _ _ _ _
      rw [← unhide HUU]
      have HSI := hide (Src.ints ((unhide HH).ext (unhide HEU)).2.1)
      refine wpList_app rfl _ _ 22 rfl wr.heap.size 5 i8 (.int .u8 0) 1 1 Tryz.underlying22 hi8 h80 h81 h82 rfl (by decide) _ 0 [] rfl (unhide HoH) _ d.hold.length (d.hold.map (Value.int .u8)) rfl (unhide HSI) (by unfold maxLen; omega) (by omega) (by omega) ?_
      intro v5 w5 o5 G5 _
      rw [Nat.zero_add, List.nil_append] at o5
      obtain ⟨a5, c5, rfl⟩ := owns_ln o5
      have f5 := Fr.grown (S := fun q => q = wr.heap.size) (Fr.refl _ U) G5 (fun q hq => by cases hq; rfl)
      have hb5 := f5.kept (unhide HBU) (by omega)
      obtain ⟨Y, hY⟩ : ∃ Y, Y = w5.setCell ⟨w.heap.size, 6, none⟩ (.slice a5 d.hold.length c5) := ⟨_, rfl⟩
      have fY : Fr (fun q => q = w.heap.size) w5 Y := by rw [hY]; exact Fr.setCell (S := fun q => q = w.heap.size) (Fr.refl _ _) (a := ⟨w.heap.size, 6, none⟩) rfl _
      have m6 : w5.cell? ⟨w.heap.size, 6, none⟩ = some (.slice ha d.hold.length hc) := cells_of hb5 6 _ rfl
      have m6f : w5.frozen? ⟨w.heap.size, 6, none⟩ = false := Lib.frozen_of_heap hb5 6
      have HBY : Hid (Y.heap[w.heap.size]? = some (.cells #[.int .i64 d.cols, .int .i64 d.rows, .slice g3 d.R c3, .int .i64 d.row, .int .i64 d.col, .bool d.late, .slice a5 d.hold.length c5, .slice ba d.nb bc] 26 (0, 0))) := hide (by rw [hY]; exact set_blk2 hb5 rfl)
      have HZY := hide (fY.kept (f5.kept (unhide HBZ) (by omega)) (by omega))
      have HOY := hide (fY.owns o5 (fun g hg e => by have := (o5.lt g hg).1; omega))
      have hoB := unhide HoB
      have HBY2 := hide (fY.owns (f5.owns hoB (fun g hg e => by have e9 : wr.heap.size + 1 = g := Option.some.inj hg; omega)) (fun g hg e => by have := (hoB.lt g hg).1; omega))
      have HGY := hide (((unhide HGU).fr f5 (fun g hg e => by have := ((unhide HP).foot hg).2; omega)).fr fY (fun g hg e => by have := ((unhide HP).foot hg).1; omega))
      have HEY := hide (fY.ext (f5.ext (unhide HEU) (fun q hq => by have := (unhide HB).ext.size; omega)) (fun q hq => by omega))
      have zY : U.heap.size ≤ Y.heap.size := Nat.le_trans f5.size fY.size
      have HYY : Hid (Y = w5.setCell ⟨w.heap.size, 6, none⟩ (.slice a5 d.hold.length c5)) := hide hY
      have s7 : (w5.setCell ⟨w.heap.size, 6, none⟩ (.slice a5 d.hold.length c5)).cell? ⟨w.heap.size, 7, none⟩ = some (.slice ba d.nb bc) := by rw [← hY]; exact cells_of (unhide HBY) 7 _ rfl
      clear o5 G5 f5 hb5 hY fY hoB HSI HUU s6 m2a m2f
      go_wp2_with (at_builtin; refine StopQ.intro ?_)
      show wpList _ _ _ _ _ _
      rw [← unhide HYY]
      have HSS := hide (Src.strs ((unhide HH).ext (unhide HEY)).2.2)
      refine wpList_app rfl _ _ 24 rfl wr.heap.size 9 i9 (.string { data := #[] }) 1 16 Tryz.underlying24 hi9 h90 h91 h92 rfl (by decide) _ 0 [] rfl (unhide HBY2) _ d.nb (strL d.bk d.nb) rfl (unhide HSS) (by unfold maxLen; omega) (by omega) (by omega) ?_
      intro v6 w6 o6 G6 _
      rw [Nat.zero_add, List.nil_append] at o6
      obtain ⟨a6, c6, rfl⟩ := owns_ln o6
      have f6 := Fr.grown (S := fun q => q = wr.heap.size + 1) (Fr.refl _ Y) G6 (fun q hq => by cases hq; rfl)
      have hb6 := f6.kept (unhide HBY) (by omega)
      have m7 : w6.cell? ⟨w.heap.size, 7, none⟩ = some (.slice ba d.nb bc) := cells_of hb6 7 _ rfl
      have m7f : w6.frozen? ⟨w.heap.size, 7, none⟩ = false := Lib.frozen_of_heap hb6 7
      have fZ : Fr (fun q => q = w.heap.size) w6 (w6.setCell ⟨w.heap.size, 7, none⟩ (.slice a6 d.nb c6)) := Fr.setCell (S := fun q => q = w.heap.size) (Fr.refl _ _) (a := ⟨w.heap.size, 7, none⟩) rfl _
      have HM : Hid ((w6.setCell ⟨w.heap.size, 7, none⟩ (.slice a6 d.nb c6)).heap[w.heap.size]? = some (.cells #[.int .i64 d.cols, .int .i64 d.rows, .slice g3 d.R c3, .int .i64 d.row, .int .i64 d.col, .bool d.late, .slice a5 d.hold.length c5, .slice a6 d.nb c6] 26 (0, 0))) := hide (set_blk2 hb6 rfl)
      have HRz := hide (fZ.kept (f6.kept (unhide HZY) (by omega)) (by omega))
      have hGZ := ((unhide HGY).fr f6 (fun g hg e => by have := ((unhide HP).foot hg).2; omega)).fr fZ (fun g hg e => by have := ((unhide HP).foot hg).1; omega)
      have hHZ := fZ.owns (f6.owns (unhide HOY) (fun g hg e => by
        have h9 := unhide HOY
        have h8 := unhide HBY2
        exact owns_apart h9 h8 (by decide) hg (by rw [e]; rfl))) (fun g hg e => by have := ((unhide HOY).lt g hg).1; omega)
      have hBZ := own_strL (fZ.owns o6 (fun g hg e => by have := (o6.lt g hg).1; omega))
      have HFin : Hid (OwnScr (w6.setCell ⟨w.heap.size, 7, none⟩ (.slice a6 d.nb c6)) (w.heap.size + 2) d (.slice g3 d.R c3) rv (.slice a5 d.hold.length c5) (.slice a6 d.nb c6)) := hide ⟨hGZ, owns_mono hHZ (by omega), hBZ.mono (by omega)⟩
      have HEZ := hide (fZ.ext (f6.ext (unhide HEY) (fun q hq => by have := (unhide HB).ext.size; omega)) (fun q hq => by omega))
      clear o6 G6 f6 hb6 fZ hGZ hHZ hBZ HSS HYY s7 m6 m6f
      go_wp2_with (first
        | (refine wpList_load_blk rfl 26 _ rfl w.heap.size rfl _ _ _ _ (unhide HM) Tryz.underlying26 rfl infoScrN ?_)
        | (refine wpList_store_blk rfl 26 _ _ rfl rfl (w.heap.size + 1) rfl _ _ _ rfl (unhide HRz) infoScrN rfl (by simp [Value.oneCell']) ?_; intro X HX9 hX9; have HXB := hide HX9; have HXF := hide hX9; clear HX9 hX9))
      have v0 := cells_of (unhide HXB) 0 _ rfl
      have v1 := cells_of (unhide HXB) 1 _ rfl
      have v2 := cells_of (unhide HXB) 2 _ rfl
      have v3 := cells_of (unhide HXB) 3 _ rfl
      have v4 := cells_of (unhide HXB) 4 _ rfl
      have v5 := cells_of (unhide HXB) 5 _ rfl
      have v6 := cells_of (unhide HXB) 6 _ rfl
      have v7 := cells_of (unhide HXB) 7 _ rfl
      have hO := (unhide HFin).fr (unhide HXF) (fun g hg e => by have := ((unhide HFin).foot hg).1; omega)
      have hEX := (unhide HXF).ext (unhide HEZ) (fun q hq => by omega)
      exact bodyPost_ret (v := .agg #[.int .i64 d.cols, .int .i64 d.rows, .slice g3 d.R c3, .int .i64 d.row, .int .i64 d.col, .bool d.late, .slice a5 d.hold.length c5, .slice a6 d.nb c6]) (by simp [results, Tryz.results36, go_sem, v0, v1, v2, v3, v4, v5, v6, v7]) rfl ⟨_, rv, _, _, rfl, ⟨hO.1.base_le (by omega), owns_mono hO.2.1 (by omega), hO.2.2.mono (by omega)⟩, hEX⟩
end Go.Proofs.YtinfdhbnljnifaaGreatDoor
