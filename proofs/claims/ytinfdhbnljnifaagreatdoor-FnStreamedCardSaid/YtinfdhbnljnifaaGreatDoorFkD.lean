import Derived.Test.YtinfdhbnljnifaaGreatDoorFsU
import Derived.Test.YtinfdhbnljnifaaGreatDoorFfC
import Derived.Test.YtinfdhbnljnifaaGreatDoorFdF
import Derived.Test.YtinfdhbnljnifaaGreatDoorFsP
import Derived.Test.YtinfdhbnljnifaaGreatDoorFsY
import Derived.Test.YtinfdhbnljnifaaGreatDoorFsS
import Derived.Test.YtinfdhbnljnifaaGreatDoorKd
import Derived.Test.YtinfdhbnljnifaaGreatDoorSnapMark
import Derived.Test.YtinfdhbnljnifaaGreatDoorU8s
import Derived.Test.YtinfdhbnljnifaaGreatDoorToScr
namespace Go.Proofs.YtinfdhbnljnifaaGreatDoor
open Go.RowKit
section
variable {base : Nat} {X : Nat → Prop} {d : SD} {gv : Value} {rv : Nat → Value} {hv bv : Value}
theorem OwnO.cellF {w : World} {base : Nat} {T : TypeId} {g k9 cap n : Nat} {A : Nat → Value} (h : OwnO w base T (.slice (some ⟨g, k9, none⟩) n cap) n A) {j : Nat} (hj : j < n) : w.cell? ⟨g, k9 + j, none⟩ = some (A j) := by
  obtain ⟨g', k', c', cur, e, _, hg, _, _, _, hA⟩ := h
  simp only [Value.slice.injEq, Option.some.injEq, Addr.mk.injEq, and_true, true_and] at e
  obtain ⟨⟨rfl, rfl⟩, rfl⟩ := e
  exact cells_of hg (k9 + j) _ (hA j hj)
def SD.sq (d : SD) (n last : Int) : SD :=
  if n < 0 then d
  else if last = 75 then (if n = 0 then d.clr d.row.toNat d.col.toNat d.cols.toNat else d)
  else if last = 74 then (if n = 0 then (d.clr d.row.toNat d.col.toNat d.cols.toNat).clrRows (d.row.toNat + 1) else d)
  else if last = 65 then d.moveTo (d.row - max n 1) d.col
  else if last = 66 then d.moveTo (d.row + max n 1) d.col
  else if last = 67 then d.moveTo d.row (d.col + max n 1)
  else if last = 68 then d.moveTo d.row (d.col - max n 1)
  else if last = 71 then d.moveTo d.row (max n 1 - 1)
  else d
theorem into_id {v m : Int} (h0 : 0 ≤ v) (h1 : v ≤ m) : into v m = v := by
  unfold into
  rw [if_neg (by omega), if_neg (by omega)]
theorem moveTo_row (hk : OkP d) (r : Int) : d.moveTo r d.col = { d with row := into r (d.rows - 1), late := false } := by
  have hc := hk.col
  unfold SD.moveTo
  rw [into_id (v := d.col) (by omega) (by omega)]
theorem moveTo_col (hk : OkP d) (c : Int) : d.moveTo d.row c = { d with col := into c (d.cols - 1), late := false } := by
  have hc := hk.row
  unfold SD.moveTo
  rw [into_id (v := d.row) (by omega) (by omega)]
theorem ScrW.newRow {F : Nat} {w w6 : World} {gb gk gc c i : Nat} (h : ScrW w F base X d (.slice (some ⟨gb, gk, none⟩) d.R gc) rv hv bv) (E : Ext w w6) (hi : i < d.R) (hC : d.C i = c) (row6 : Own2 w6 w.heap.size 83 (.slice (some ⟨w.heap.size, 0, none⟩) c c) c (fun _ => .string noB) (fun _ => .bool false)) :
    ScrW (w6.setCell ⟨gb, gk + i, none⟩ (.slice (some ⟨w.heap.size, 0, none⟩) c c)) F base X { d with tx := fun p q => if p = i then bz else d.tx p q, hf := fun p q => if p = i then false else d.hf p q } (.slice (some ⟨gb, gk, none⟩) d.R gc) (fun j => if j = i then .slice (some ⟨w.heap.size, 0, none⟩) c c else rv j) hv bv ∧ Fr (fun k => k = gb) w (w6.setCell ⟨gb, gk + i, none⟩ (.slice (some ⟨w.heap.size, 0, none⟩) c c)) := by
  obtain ⟨Z, hZ⟩ : ∃ Z, Z = w6.setCell ⟨gb, gk + i, none⟩ (.slice (some ⟨w.heap.size, 0, none⟩) c c) := ⟨_, rfl⟩
  have fZ : Fr (fun k => k = gb) w6 Z := by rw [hZ]; exact Fr.setCell (S := fun k => k = gb) (Fr.refl _ _) (a := ⟨gb, gk + i, none⟩) rfl _
  have hall : Fr (fun k => k = gb) w Z := Fr.tr (Fr.of_ext E) fZ
  have hgb := (h.foot (g := gb) (.inl rfl)).2
  have hgF : gb ≠ F := fun e => h.below.2 (.inl (by rw [← e]; rfl))
  have hown : ∀ g, Value.ownBlock (.slice (some ⟨w.heap.size, 0, none⟩) c c) = some g → g = w.heap.size := fun g hg => by have : w.heap.size = g := (by simpa [Value.ownBlock] using hg); omega
  have hrow : Own2 Z base 83 (.slice (some ⟨w.heap.size, 0, none⟩) c c) c (fun _ => .string bz) (fun _ => .bool false) :=
    (row6.mono (by have := h.top; omega : base ≤ w.heap.size)).fr fZ (fun g hg e => by have := hown g hg; omega)
  have z9 := hall.size
  have hlt : w.heap.size < Z.heap.size := (hrow.lt _ rfl).2
  have hft : ∀ k, k < w.heap.size → ¬ WFoot d (.slice (some ⟨gb, gk, none⟩) d.R gc) rv bv k → ¬ WFoot { d with tx := fun p q => if p = i then bz else d.tx p q, hf := fun p q => if p = i then false else d.hf p q } (.slice (some ⟨gb, gk, none⟩) d.R gc) (fun j => if j = i then .slice (some ⟨w.heap.size, 0, none⟩) c c else rv j) bv k := by
    intro k hk hn hw
    rcases hw with hw | ⟨j, hj, hw⟩ | hw
    · exact hn (.inl hw)
    · try dsimp only at hw
      by_cases e : j = i
      · rw [if_pos e] at hw
        have := hown k hw
        omega
      · rw [if_neg e] at hw
        exact hn (.inr (.inl ⟨j, hj, hw⟩))
    · exact hn (.inr (.inr hw))
  rw [← hZ]
  refine ⟨⟨hall.kept h.box (fun e => hgF e.symm), ?_, ?_, ?_, ?_, ⟨by have := h.below.1; omega, hft F h.below.1 h.below.2⟩, by have := h.top; omega, fun k hk => ⟨by have := (h.kept k hk).1; omega, hft k (h.kept k hk).1 (h.kept k hk).2⟩⟩, hall⟩
  · rw [hZ]
    exact (h.grid.ext E).set i hi _
  · intro j hj
    show Own2 Z base 83 (if j = i then .slice (some ⟨w.heap.size, 0, none⟩) c c else rv j) (d.C j) (fun q => .string (if j = i then bz else d.tx j q)) (fun q => .bool (if j = i then false else d.hf j q))
    by_cases e : j = i
    · subst e
      simp only [if_true]
      rw [hC]
      exact hrow
    · simp only [e, if_false]
      exact (h.row j hj).fr hall (fun g hg e9 => h.rowGrid hj hg (by rw [e9]; rfl))
  · intro p q g hpq hq hp hq2
    try dsimp only at hp hq2
    have hq' : q < d.R := hq
    by_cases e : p = i
    · rw [if_pos e] at hp
      rw [if_neg (by omega)] at hq2
      have := hown g hp
      have := (h.foot (g := g) (.inr (.inl ⟨q, hq', hq2⟩))).2
      omega
    · rw [if_neg e] at hp
      have hp9 := (h.foot (g := g) (.inr (.inl ⟨p, by omega, hp⟩))).2
      by_cases e2 : q = i
      · rw [if_pos e2] at hq2
        have := hown g hq2
        omega
      · rw [if_neg e2] at hq2
        exact h.apart p q g hpq hq' hp hq2
  · exact h.back.fr hall (fun g hg e9 => h.gridBack hg (by rw [e9]; rfl))
theorem ScrW.clrUp_new {F : Nat} {w : World} {i k : Nat} {gv' : Value} {rv' : Nat → Value} (h : ScrW w F base X { d.clrUp i k with tx := fun p q => if p = k then bz else (d.clrUp i k).tx p q, hf := fun p q => if p = k then false else (d.clrUp i k).hf p q } gv' rv' hv bv) (hik : i ≤ k) : ScrW w F base X (d.clrUp i (k + 1)) gv' rv' hv bv := by
  refine h.texts (d.clrUp i (k + 1)).tx (d.clrUp i (k + 1)).hf (fun p q hp hq => ?_)
  show (if p = k then bz else if i ≤ p ∧ p < k then bz else d.tx p q) = (if i ≤ p ∧ p < k + 1 then bz else d.tx p q) ∧ (if p = k then false else if i ≤ p ∧ p < k then false else d.hf p q) = (if i ≤ p ∧ p < k + 1 then false else d.hf p q)
  by_cases e : p = k
  · subst e
    simp [hik]
  · by_cases e2 : i ≤ p ∧ p < k
    · simp only [if_neg e, if_pos e2, if_pos (show i ≤ p ∧ p < k + 1 by omega), and_self]
    · simp only [if_neg e, if_neg e2, if_neg (show ¬ (i ≤ p ∧ p < k + 1) by omega), and_self]
set_option linter.unusedSimpArgs false in
set_option maxRecDepth 10000 in
set_option maxHeartbeats 4000000 in
theorem l2Seq_neg (w : World) (h : ScrV w base X d gv rv bv) (ha hc : Nat) (hs : Option Addr) (hhv : hv = .slice hs ha hc) (_hk : OkP d) (n last : Int) (hn : n < 0) :
    Calls Tryz.prog 38 #[scrV d gv hv bv, .int .i64 n, .int .u8 last] w (SpR w base X d hv) := by
  obtain ⟨gb, gk, gc, _, hgv, _⟩ := id h.grid
  obtain ⟨ba, bc, hbv⟩ : ∃ a c, bv = .slice a d.nb c := by obtain ⟨_, h9, _⟩ := h.back; exact owns_ln h9
  subst hgv
  subst hbv
  subst hhv
  have H := hide h
  clear h
  unfold scrV
  go_enter Tryz.func38, Tryz.ntmps38
  go_wp2_with fail
  refine bodyPost_ret (v := .agg #[.int .i64 d.cols, .int .i64 d.rows, .slice (some ⟨gb, gk, none⟩) d.R gc, .int .i64 (d.row), .int .i64 (d.col), .bool d.late, .slice hs ha hc, .slice ba d.nb bc]) (by simp [results, Tryz.results38, go_sem]) rfl ⟨_, rv, _, rfl, ?_, Fr.of_ext (((Ext.refl w).alloc _).alloc _)⟩
  have h9 := (unhide H).ext (((Ext.refl w).alloc (.cells #[.int .i64 d.cols, .int .i64 d.rows, .slice (some ⟨gb, gk, none⟩) d.R gc, .int .i64 (d.row), .int .i64 (d.col), .bool d.late, .slice hs ha hc, .slice ba d.nb bc] 26)).alloc (.cells #[.int .i64 d.cols, .int .i64 d.rows, .slice (some ⟨gb, gk, none⟩) d.R gc, .int .i64 (d.row), .int .i64 (d.col), .bool d.late, .slice hs ha hc, .slice ba d.nb bc] 26))
  exact ⟨h9.grid, h9.row, h9.apart, h9.back, h9.top, h9.kept⟩
set_option linter.unusedSimpArgs false in
set_option maxRecDepth 10000 in
set_option maxHeartbeats 4000000 in
theorem l2Seq_other (w : World) (h : ScrV w base X d gv rv bv) (ha hc : Nat) (hs : Option Addr) (hhv : hv = .slice hs ha hc) (_hk : OkP d) (n last : Int) (hn : 0 ≤ n) (h65 : last ≠ 65) (h66 : last ≠ 66) (h67 : last ≠ 67) (h68 : last ≠ 68) (h71 : last ≠ 71) (hz : n = 0 → last ≠ 75 ∧ last ≠ 74) :
    Calls Tryz.prog 38 #[scrV d gv hv bv, .int .i64 n, .int .u8 last] w (SpR w base X d hv) := by
  obtain ⟨gb, gk, gc, _, hgv, _⟩ := id h.grid
  obtain ⟨ba, bc, hbv⟩ : ∃ a c, bv = .slice a d.nb c := by obtain ⟨_, h9, _⟩ := h.back; exact owns_ln h9
  subst hgv
  subst hbv
  subst hhv
  have H := hide h
  have hn0 : ¬ n < 0 := by omega
  have b65 : (last == 65) = false := by simpa using h65
  have b66 : (last == 66) = false := by simpa using h66
  have b67 : (last == 67) = false := by simpa using h67
  have b68 : (last == 68) = false := by simpa using h68
  have b71 : (last == 71) = false := by simpa using h71
  clear h h65 h66 h67 h68 h71
  unfold scrV
  go_enter Tryz.func38, Tryz.ntmps38
  by_cases h0 : n = 0
  · subst h0
    have b75 : (last == 75) = false := by simpa using (hz rfl).1
    have b74 : (last == 74) = false := by simpa using (hz rfl).2
    clear hz
    go_wp2_with fail
    refine bodyPost_ret (v := .agg #[.int .i64 d.cols, .int .i64 d.rows, .slice (some ⟨gb, gk, none⟩) d.R gc, .int .i64 (d.row), .int .i64 (d.col), .bool d.late, .slice hs ha hc, .slice ba d.nb bc]) (by simp [results, Tryz.results38, go_sem]) rfl ⟨_, rv, _, rfl, ?_, Fr.of_ext (((Ext.refl w).alloc _).alloc _)⟩
    have h9 := (unhide H).ext (((Ext.refl w).alloc (.cells #[.int .i64 d.cols, .int .i64 d.rows, .slice (some ⟨gb, gk, none⟩) d.R gc, .int .i64 (d.row), .int .i64 (d.col), .bool d.late, .slice hs ha hc, .slice ba d.nb bc] 26)).alloc (.cells #[.int .i64 d.cols, .int .i64 d.rows, .slice (some ⟨gb, gk, none⟩) d.R gc, .int .i64 (d.row), .int .i64 (d.col), .bool d.late, .slice hs ha hc, .slice ba d.nb bc] 26))
    exact ⟨h9.grid, h9.row, h9.apart, h9.back, h9.top, h9.kept⟩
  · have h0b : (n == 0) = false := by simp [h0]
    clear hz
    go_wp2_with fail
    refine bodyPost_ret (v := .agg #[.int .i64 d.cols, .int .i64 d.rows, .slice (some ⟨gb, gk, none⟩) d.R gc, .int .i64 (d.row), .int .i64 (d.col), .bool d.late, .slice hs ha hc, .slice ba d.nb bc]) (by simp [results, Tryz.results38, go_sem]) rfl ⟨_, rv, _, rfl, ?_, Fr.of_ext (((Ext.refl w).alloc _).alloc _)⟩
    have h9 := (unhide H).ext (((Ext.refl w).alloc (.cells #[.int .i64 d.cols, .int .i64 d.rows, .slice (some ⟨gb, gk, none⟩) d.R gc, .int .i64 (d.row), .int .i64 (d.col), .bool d.late, .slice hs ha hc, .slice ba d.nb bc] 26)).alloc (.cells #[.int .i64 d.cols, .int .i64 d.rows, .slice (some ⟨gb, gk, none⟩) d.R gc, .int .i64 (d.row), .int .i64 (d.col), .bool d.late, .slice hs ha hc, .slice ba d.nb bc] 26))
    exact ⟨h9.grid, h9.row, h9.apart, h9.back, h9.top, h9.kept⟩
set_option linter.unusedSimpArgs false in
set_option maxRecDepth 10000 in
set_option maxHeartbeats 4000000 in
theorem l2Seq_65 (w : World) (h : ScrV w base X d gv rv bv) (ha hc : Nat) (hs : Option Addr) (hhv : hv = .slice hs ha hc) (hk : OkP d) (n : Int) (hn : 0 ≤ n) (hn2 : n ≤ 100000) :
    Calls Tryz.prog 38 #[scrV d gv hv bv, .int .i64 n, .int .u8 65] w (SpR w base X (d.moveTo (d.row - max n 1) d.col) hv) := by
  obtain ⟨gb, gk, gc, _, hgv, _⟩ := id h.grid
  obtain ⟨ba, bc, hbv⟩ : ∃ a c, bv = .slice a d.nb c := by obtain ⟨_, h9, _⟩ := h.back; exact owns_ln h9
  subst hgv
  subst hbv
  subst hhv
  have H := hide h
  have hn0 : ¬ n < 0 := by omega
  have hsz := size_bd hk
  have hrw := hk.row
  have hcl := hk.col
  have wm : IntKind.i64.wrap (d.rows - 1) = d.rows - 1 := by rw [IntKind.wrap_i64] <;> omega
  rw [moveTo_row hk]
  obtain ⟨v, hv9⟩ : ∃ v, v = into (d.row - max n 1) (d.rows - 1) := ⟨_, rfl⟩
  rw [← hv9]
  by_cases h0 : n = 0
  · subst h0
    have HI := hide (fun W => l2Into_any (d.row - 1) (d.rows - 1) W)
    have we : IntKind.i64.wrap (d.row - 1) = d.row - 1 := by rw [IntKind.wrap_i64] <;> omega
    rw [show d.row - max (0 : Int) 1 = d.row - 1 from by omega] at hv9
    rw [← hv9] at HI
    clear hv9 h hk hrw hcl hsz
    unfold scrV
    go_enter Tryz.func38, Tryz.ntmps38
    go_wp2_with fail
    refine ((unhide HI) _).mono ?_
    rintro e w9 ⟨rfl, rfl⟩
    go_wp2_with fail
    refine bodyPost_ret (v := .agg #[.int .i64 d.cols, .int .i64 d.rows, .slice (some ⟨gb, gk, none⟩) d.R gc, .int .i64 (v), .int .i64 (d.col), .bool false, .slice hs ha hc, .slice ba d.nb bc]) (by simp [results, Tryz.results38, go_sem]) rfl ⟨_, rv, _, rfl, ?_, Fr.of_ext (((Ext.refl w).alloc _).alloc _)⟩
    have h9 := (unhide H).ext (((Ext.refl w).alloc (.cells #[.int .i64 d.cols, .int .i64 d.rows, .slice (some ⟨gb, gk, none⟩) d.R gc, .int .i64 (v), .int .i64 (d.col), .bool false, .slice hs ha hc, .slice ba d.nb bc] 26)).alloc (.cells #[.int .i64 d.cols, .int .i64 d.rows, .slice (some ⟨gb, gk, none⟩) d.R gc, .int .i64 (v), .int .i64 (d.col), .bool false, .slice hs ha hc, .slice ba d.nb bc] 26))
    exact ⟨h9.grid, h9.row, h9.apart, h9.back, h9.top, h9.kept⟩
  · have h0b : (n == 0) = false := by simp [h0]
    have HI := hide (fun W => l2Into_any (d.row - n) (d.rows - 1) W)
    have we : IntKind.i64.wrap (d.row - n) = d.row - n := by rw [IntKind.wrap_i64] <;> omega
    rw [show d.row - max (n : Int) 1 = d.row - n from by omega] at hv9
    rw [← hv9] at HI
    clear hv9 h hk hrw hcl hsz
    unfold scrV
    go_enter Tryz.func38, Tryz.ntmps38
    go_wp2_with fail
    refine ((unhide HI) _).mono ?_
    rintro e w9 ⟨rfl, rfl⟩
    go_wp2_with fail
    refine bodyPost_ret (v := .agg #[.int .i64 d.cols, .int .i64 d.rows, .slice (some ⟨gb, gk, none⟩) d.R gc, .int .i64 (v), .int .i64 (d.col), .bool false, .slice hs ha hc, .slice ba d.nb bc]) (by simp [results, Tryz.results38, go_sem]) rfl ⟨_, rv, _, rfl, ?_, Fr.of_ext (((Ext.refl w).alloc _).alloc _)⟩
    have h9 := (unhide H).ext (((Ext.refl w).alloc (.cells #[.int .i64 d.cols, .int .i64 d.rows, .slice (some ⟨gb, gk, none⟩) d.R gc, .int .i64 (v), .int .i64 (d.col), .bool false, .slice hs ha hc, .slice ba d.nb bc] 26)).alloc (.cells #[.int .i64 d.cols, .int .i64 d.rows, .slice (some ⟨gb, gk, none⟩) d.R gc, .int .i64 (v), .int .i64 (d.col), .bool false, .slice hs ha hc, .slice ba d.nb bc] 26))
    exact ⟨h9.grid, h9.row, h9.apart, h9.back, h9.top, h9.kept⟩
set_option linter.unusedSimpArgs false in
set_option maxRecDepth 10000 in
set_option maxHeartbeats 4000000 in
theorem l2Seq_66 (w : World) (h : ScrV w base X d gv rv bv) (ha hc : Nat) (hs : Option Addr) (hhv : hv = .slice hs ha hc) (hk : OkP d) (n : Int) (hn : 0 ≤ n) (hn2 : n ≤ 100000) :
    Calls Tryz.prog 38 #[scrV d gv hv bv, .int .i64 n, .int .u8 66] w (SpR w base X (d.moveTo (d.row + max n 1) d.col) hv) := by
  obtain ⟨gb, gk, gc, _, hgv, _⟩ := id h.grid
  obtain ⟨ba, bc, hbv⟩ : ∃ a c, bv = .slice a d.nb c := by obtain ⟨_, h9, _⟩ := h.back; exact owns_ln h9
  subst hgv
  subst hbv
  subst hhv
  have H := hide h
  have hn0 : ¬ n < 0 := by omega
  have hsz := size_bd hk
  have hrw := hk.row
  have hcl := hk.col
  have wm : IntKind.i64.wrap (d.rows - 1) = d.rows - 1 := by rw [IntKind.wrap_i64] <;> omega
  rw [moveTo_row hk]
  obtain ⟨v, hv9⟩ : ∃ v, v = into (d.row + max n 1) (d.rows - 1) := ⟨_, rfl⟩
  rw [← hv9]
  by_cases h0 : n = 0
  · subst h0
    have HI := hide (fun W => l2Into_any (d.row + 1) (d.rows - 1) W)
    have we : IntKind.i64.wrap (d.row + 1) = d.row + 1 := by rw [IntKind.wrap_i64] <;> omega
    rw [show d.row + max (0 : Int) 1 = d.row + 1 from by omega] at hv9
    rw [← hv9] at HI
    clear hv9 h hk hrw hcl hsz
    unfold scrV
    go_enter Tryz.func38, Tryz.ntmps38
    go_wp2_with fail
    refine ((unhide HI) _).mono ?_
    rintro e w9 ⟨rfl, rfl⟩
    go_wp2_with fail
    refine bodyPost_ret (v := .agg #[.int .i64 d.cols, .int .i64 d.rows, .slice (some ⟨gb, gk, none⟩) d.R gc, .int .i64 (v), .int .i64 (d.col), .bool false, .slice hs ha hc, .slice ba d.nb bc]) (by simp [results, Tryz.results38, go_sem]) rfl ⟨_, rv, _, rfl, ?_, Fr.of_ext (((Ext.refl w).alloc _).alloc _)⟩
    have h9 := (unhide H).ext (((Ext.refl w).alloc (.cells #[.int .i64 d.cols, .int .i64 d.rows, .slice (some ⟨gb, gk, none⟩) d.R gc, .int .i64 (v), .int .i64 (d.col), .bool false, .slice hs ha hc, .slice ba d.nb bc] 26)).alloc (.cells #[.int .i64 d.cols, .int .i64 d.rows, .slice (some ⟨gb, gk, none⟩) d.R gc, .int .i64 (v), .int .i64 (d.col), .bool false, .slice hs ha hc, .slice ba d.nb bc] 26))
    exact ⟨h9.grid, h9.row, h9.apart, h9.back, h9.top, h9.kept⟩
  · have h0b : (n == 0) = false := by simp [h0]
    have HI := hide (fun W => l2Into_any (d.row + n) (d.rows - 1) W)
    have we : IntKind.i64.wrap (d.row + n) = d.row + n := by rw [IntKind.wrap_i64] <;> omega
    rw [show d.row + max (n : Int) 1 = d.row + n from by omega] at hv9
    rw [← hv9] at HI
    clear hv9 h hk hrw hcl hsz
    unfold scrV
    go_enter Tryz.func38, Tryz.ntmps38
    go_wp2_with fail
    refine ((unhide HI) _).mono ?_
    rintro e w9 ⟨rfl, rfl⟩
    go_wp2_with fail
    refine bodyPost_ret (v := .agg #[.int .i64 d.cols, .int .i64 d.rows, .slice (some ⟨gb, gk, none⟩) d.R gc, .int .i64 (v), .int .i64 (d.col), .bool false, .slice hs ha hc, .slice ba d.nb bc]) (by simp [results, Tryz.results38, go_sem]) rfl ⟨_, rv, _, rfl, ?_, Fr.of_ext (((Ext.refl w).alloc _).alloc _)⟩
    have h9 := (unhide H).ext (((Ext.refl w).alloc (.cells #[.int .i64 d.cols, .int .i64 d.rows, .slice (some ⟨gb, gk, none⟩) d.R gc, .int .i64 (v), .int .i64 (d.col), .bool false, .slice hs ha hc, .slice ba d.nb bc] 26)).alloc (.cells #[.int .i64 d.cols, .int .i64 d.rows, .slice (some ⟨gb, gk, none⟩) d.R gc, .int .i64 (v), .int .i64 (d.col), .bool false, .slice hs ha hc, .slice ba d.nb bc] 26))
    exact ⟨h9.grid, h9.row, h9.apart, h9.back, h9.top, h9.kept⟩
set_option linter.unusedSimpArgs false in
set_option maxRecDepth 10000 in
set_option maxHeartbeats 4000000 in
theorem l2Seq_67 (w : World) (h : ScrV w base X d gv rv bv) (ha hc : Nat) (hs : Option Addr) (hhv : hv = .slice hs ha hc) (hk : OkP d) (n : Int) (hn : 0 ≤ n) (hn2 : n ≤ 100000) :
    Calls Tryz.prog 38 #[scrV d gv hv bv, .int .i64 n, .int .u8 67] w (SpR w base X (d.moveTo d.row (d.col + max n 1)) hv) := by
  obtain ⟨gb, gk, gc, _, hgv, _⟩ := id h.grid
  obtain ⟨ba, bc, hbv⟩ : ∃ a c, bv = .slice a d.nb c := by obtain ⟨_, h9, _⟩ := h.back; exact owns_ln h9
  subst hgv
  subst hbv
  subst hhv
  have H := hide h
  have hn0 : ¬ n < 0 := by omega
  have hsz := size_bd hk
  have hrw := hk.row
  have hcl := hk.col
  have wm : IntKind.i64.wrap (d.cols - 1) = d.cols - 1 := by rw [IntKind.wrap_i64] <;> omega
  rw [moveTo_col hk]
  obtain ⟨v, hv9⟩ : ∃ v, v = into (d.col + max n 1) (d.cols - 1) := ⟨_, rfl⟩
  rw [← hv9]
  by_cases h0 : n = 0
  · subst h0
    have HI := hide (fun W => l2Into_any (d.col + 1) (d.cols - 1) W)
    have we : IntKind.i64.wrap (d.col + 1) = d.col + 1 := by rw [IntKind.wrap_i64] <;> omega
    rw [show d.col + max (0 : Int) 1 = d.col + 1 from by omega] at hv9
    rw [← hv9] at HI
    clear hv9 h hk hrw hcl hsz
    unfold scrV
    go_enter Tryz.func38, Tryz.ntmps38
    go_wp2_with fail
    refine ((unhide HI) _).mono ?_
    rintro e w9 ⟨rfl, rfl⟩
    go_wp2_with fail
    refine bodyPost_ret (v := .agg #[.int .i64 d.cols, .int .i64 d.rows, .slice (some ⟨gb, gk, none⟩) d.R gc, .int .i64 (d.row), .int .i64 (v), .bool false, .slice hs ha hc, .slice ba d.nb bc]) (by simp [results, Tryz.results38, go_sem]) rfl ⟨_, rv, _, rfl, ?_, Fr.of_ext (((Ext.refl w).alloc _).alloc _)⟩
    have h9 := (unhide H).ext (((Ext.refl w).alloc (.cells #[.int .i64 d.cols, .int .i64 d.rows, .slice (some ⟨gb, gk, none⟩) d.R gc, .int .i64 (d.row), .int .i64 (v), .bool false, .slice hs ha hc, .slice ba d.nb bc] 26)).alloc (.cells #[.int .i64 d.cols, .int .i64 d.rows, .slice (some ⟨gb, gk, none⟩) d.R gc, .int .i64 (d.row), .int .i64 (v), .bool false, .slice hs ha hc, .slice ba d.nb bc] 26))
    exact ⟨h9.grid, h9.row, h9.apart, h9.back, h9.top, h9.kept⟩
  · have h0b : (n == 0) = false := by simp [h0]
    have HI := hide (fun W => l2Into_any (d.col + n) (d.cols - 1) W)
    have we : IntKind.i64.wrap (d.col + n) = d.col + n := by rw [IntKind.wrap_i64] <;> omega
    rw [show d.col + max (n : Int) 1 = d.col + n from by omega] at hv9
    rw [← hv9] at HI
    clear hv9 h hk hrw hcl hsz
    unfold scrV
    go_enter Tryz.func38, Tryz.ntmps38
    go_wp2_with fail
    refine ((unhide HI) _).mono ?_
    rintro e w9 ⟨rfl, rfl⟩
    go_wp2_with fail
    refine bodyPost_ret (v := .agg #[.int .i64 d.cols, .int .i64 d.rows, .slice (some ⟨gb, gk, none⟩) d.R gc, .int .i64 (d.row), .int .i64 (v), .bool false, .slice hs ha hc, .slice ba d.nb bc]) (by simp [results, Tryz.results38, go_sem]) rfl ⟨_, rv, _, rfl, ?_, Fr.of_ext (((Ext.refl w).alloc _).alloc _)⟩
    have h9 := (unhide H).ext (((Ext.refl w).alloc (.cells #[.int .i64 d.cols, .int .i64 d.rows, .slice (some ⟨gb, gk, none⟩) d.R gc, .int .i64 (d.row), .int .i64 (v), .bool false, .slice hs ha hc, .slice ba d.nb bc] 26)).alloc (.cells #[.int .i64 d.cols, .int .i64 d.rows, .slice (some ⟨gb, gk, none⟩) d.R gc, .int .i64 (d.row), .int .i64 (v), .bool false, .slice hs ha hc, .slice ba d.nb bc] 26))
    exact ⟨h9.grid, h9.row, h9.apart, h9.back, h9.top, h9.kept⟩
set_option linter.unusedSimpArgs false in
set_option maxRecDepth 10000 in
set_option maxHeartbeats 4000000 in
theorem l2Seq_68 (w : World) (h : ScrV w base X d gv rv bv) (ha hc : Nat) (hs : Option Addr) (hhv : hv = .slice hs ha hc) (hk : OkP d) (n : Int) (hn : 0 ≤ n) (hn2 : n ≤ 100000) :
    Calls Tryz.prog 38 #[scrV d gv hv bv, .int .i64 n, .int .u8 68] w (SpR w base X (d.moveTo d.row (d.col - max n 1)) hv) := by
  obtain ⟨gb, gk, gc, _, hgv, _⟩ := id h.grid
  obtain ⟨ba, bc, hbv⟩ : ∃ a c, bv = .slice a d.nb c := by obtain ⟨_, h9, _⟩ := h.back; exact owns_ln h9
  subst hgv
  subst hbv
  subst hhv
  have H := hide h
  have hn0 : ¬ n < 0 := by omega
  have hsz := size_bd hk
  have hrw := hk.row
  have hcl := hk.col
  have wm : IntKind.i64.wrap (d.cols - 1) = d.cols - 1 := by rw [IntKind.wrap_i64] <;> omega
  rw [moveTo_col hk]
  obtain ⟨v, hv9⟩ : ∃ v, v = into (d.col - max n 1) (d.cols - 1) := ⟨_, rfl⟩
  rw [← hv9]
  by_cases h0 : n = 0
  · subst h0
    have HI := hide (fun W => l2Into_any (d.col - 1) (d.cols - 1) W)
    have we : IntKind.i64.wrap (d.col - 1) = d.col - 1 := by rw [IntKind.wrap_i64] <;> omega
    rw [show d.col - max (0 : Int) 1 = d.col - 1 from by omega] at hv9
    rw [← hv9] at HI
    clear hv9 h hk hrw hcl hsz
    unfold scrV
    go_enter Tryz.func38, Tryz.ntmps38
    go_wp2_with fail
    refine ((unhide HI) _).mono ?_
    rintro e w9 ⟨rfl, rfl⟩
    go_wp2_with fail
    refine bodyPost_ret (v := .agg #[.int .i64 d.cols, .int .i64 d.rows, .slice (some ⟨gb, gk, none⟩) d.R gc, .int .i64 (d.row), .int .i64 (v), .bool false, .slice hs ha hc, .slice ba d.nb bc]) (by simp [results, Tryz.results38, go_sem]) rfl ⟨_, rv, _, rfl, ?_, Fr.of_ext (((Ext.refl w).alloc _).alloc _)⟩
    have h9 := (unhide H).ext (((Ext.refl w).alloc (.cells #[.int .i64 d.cols, .int .i64 d.rows, .slice (some ⟨gb, gk, none⟩) d.R gc, .int .i64 (d.row), .int .i64 (v), .bool false, .slice hs ha hc, .slice ba d.nb bc] 26)).alloc (.cells #[.int .i64 d.cols, .int .i64 d.rows, .slice (some ⟨gb, gk, none⟩) d.R gc, .int .i64 (d.row), .int .i64 (v), .bool false, .slice hs ha hc, .slice ba d.nb bc] 26))
    exact ⟨h9.grid, h9.row, h9.apart, h9.back, h9.top, h9.kept⟩
  · have h0b : (n == 0) = false := by simp [h0]
    have HI := hide (fun W => l2Into_any (d.col - n) (d.cols - 1) W)
    have we : IntKind.i64.wrap (d.col - n) = d.col - n := by rw [IntKind.wrap_i64] <;> omega
    rw [show d.col - max (n : Int) 1 = d.col - n from by omega] at hv9
    rw [← hv9] at HI
    clear hv9 h hk hrw hcl hsz
    unfold scrV
    go_enter Tryz.func38, Tryz.ntmps38
    go_wp2_with fail
    refine ((unhide HI) _).mono ?_
    rintro e w9 ⟨rfl, rfl⟩
    go_wp2_with fail
    refine bodyPost_ret (v := .agg #[.int .i64 d.cols, .int .i64 d.rows, .slice (some ⟨gb, gk, none⟩) d.R gc, .int .i64 (d.row), .int .i64 (v), .bool false, .slice hs ha hc, .slice ba d.nb bc]) (by simp [results, Tryz.results38, go_sem]) rfl ⟨_, rv, _, rfl, ?_, Fr.of_ext (((Ext.refl w).alloc _).alloc _)⟩
    have h9 := (unhide H).ext (((Ext.refl w).alloc (.cells #[.int .i64 d.cols, .int .i64 d.rows, .slice (some ⟨gb, gk, none⟩) d.R gc, .int .i64 (d.row), .int .i64 (v), .bool false, .slice hs ha hc, .slice ba d.nb bc] 26)).alloc (.cells #[.int .i64 d.cols, .int .i64 d.rows, .slice (some ⟨gb, gk, none⟩) d.R gc, .int .i64 (d.row), .int .i64 (v), .bool false, .slice hs ha hc, .slice ba d.nb bc] 26))
    exact ⟨h9.grid, h9.row, h9.apart, h9.back, h9.top, h9.kept⟩
set_option linter.unusedSimpArgs false in
set_option maxRecDepth 10000 in
set_option maxHeartbeats 4000000 in
theorem l2Seq_71 (w : World) (h : ScrV w base X d gv rv bv) (ha hc : Nat) (hs : Option Addr) (hhv : hv = .slice hs ha hc) (hk : OkP d) (n : Int) (hn : 0 ≤ n) (hn2 : n ≤ 100000) :
    Calls Tryz.prog 38 #[scrV d gv hv bv, .int .i64 n, .int .u8 71] w (SpR w base X (d.moveTo d.row (max n 1 - 1)) hv) := by
  obtain ⟨gb, gk, gc, _, hgv, _⟩ := id h.grid
  obtain ⟨ba, bc, hbv⟩ : ∃ a c, bv = .slice a d.nb c := by obtain ⟨_, h9, _⟩ := h.back; exact owns_ln h9
  subst hgv
  subst hbv
  subst hhv
  have H := hide h
  have hn0 : ¬ n < 0 := by omega
  have hsz := size_bd hk
  have hrw := hk.row
  have hcl := hk.col
  have wm : IntKind.i64.wrap (d.cols - 1) = d.cols - 1 := by rw [IntKind.wrap_i64] <;> omega
  rw [moveTo_col hk]
  obtain ⟨v, hv9⟩ : ∃ v, v = into (max n 1 - 1) (d.cols - 1) := ⟨_, rfl⟩
  rw [← hv9]
  by_cases h0 : n = 0
  · subst h0
    have HI := hide (fun W => l2Into_any (-1) (d.cols - 1) W)
    have we : IntKind.i64.wrap (-1) = -1 := by rw [IntKind.wrap_i64] <;> omega
    rw [show max (0 : Int) 1 - 1 = 0 from by omega] at hv9
    have hv8 : v = into (-1) (d.cols - 1) := by rw [hv9]; unfold into; rw [if_neg (by omega), if_neg (by omega), if_pos (by omega)]
    rw [← hv8] at HI
    clear hv8
    clear hv9 h hk hrw hcl hsz
    unfold scrV
    go_enter Tryz.func38, Tryz.ntmps38
    go_wp2_with fail
    refine ((unhide HI) _).mono ?_
    rintro e w9 ⟨rfl, rfl⟩
    go_wp2_with fail
    refine bodyPost_ret (v := .agg #[.int .i64 d.cols, .int .i64 d.rows, .slice (some ⟨gb, gk, none⟩) d.R gc, .int .i64 (d.row), .int .i64 (v), .bool false, .slice hs ha hc, .slice ba d.nb bc]) (by simp [results, Tryz.results38, go_sem]) rfl ⟨_, rv, _, rfl, ?_, Fr.of_ext (((Ext.refl w).alloc _).alloc _)⟩
    have h9 := (unhide H).ext (((Ext.refl w).alloc (.cells #[.int .i64 d.cols, .int .i64 d.rows, .slice (some ⟨gb, gk, none⟩) d.R gc, .int .i64 (d.row), .int .i64 (v), .bool false, .slice hs ha hc, .slice ba d.nb bc] 26)).alloc (.cells #[.int .i64 d.cols, .int .i64 d.rows, .slice (some ⟨gb, gk, none⟩) d.R gc, .int .i64 (d.row), .int .i64 (v), .bool false, .slice hs ha hc, .slice ba d.nb bc] 26))
    exact ⟨h9.grid, h9.row, h9.apart, h9.back, h9.top, h9.kept⟩
  · have h0b : (n == 0) = false := by simp [h0]
    have HI := hide (fun W => l2Into_any (n - 1) (d.cols - 1) W)
    have we : IntKind.i64.wrap (n - 1) = n - 1 := by rw [IntKind.wrap_i64] <;> omega
    rw [show max (n : Int) 1 - 1 = n - 1 from by omega] at hv9
    rw [← hv9] at HI
    clear hv9 h hk hrw hcl hsz
    unfold scrV
    go_enter Tryz.func38, Tryz.ntmps38
    go_wp2_with fail
    refine ((unhide HI) _).mono ?_
    rintro e w9 ⟨rfl, rfl⟩
    go_wp2_with fail
    refine bodyPost_ret (v := .agg #[.int .i64 d.cols, .int .i64 d.rows, .slice (some ⟨gb, gk, none⟩) d.R gc, .int .i64 (d.row), .int .i64 (v), .bool false, .slice hs ha hc, .slice ba d.nb bc]) (by simp [results, Tryz.results38, go_sem]) rfl ⟨_, rv, _, rfl, ?_, Fr.of_ext (((Ext.refl w).alloc _).alloc _)⟩
    have h9 := (unhide H).ext (((Ext.refl w).alloc (.cells #[.int .i64 d.cols, .int .i64 d.rows, .slice (some ⟨gb, gk, none⟩) d.R gc, .int .i64 (d.row), .int .i64 (v), .bool false, .slice hs ha hc, .slice ba d.nb bc] 26)).alloc (.cells #[.int .i64 d.cols, .int .i64 d.rows, .slice (some ⟨gb, gk, none⟩) d.R gc, .int .i64 (d.row), .int .i64 (v), .bool false, .slice hs ha hc, .slice ba d.nb bc] 26))
    exact ⟨h9.grid, h9.row, h9.apart, h9.back, h9.top, h9.kept⟩
end
end Go.Proofs.YtinfdhbnljnifaaGreatDoor

namespace Go.Proofs.YtinfdhbnljnifaaGreatDoor
open Go.RowKit
section
variable {base : Nat} {X : Nat → Prop} {d : SD} {gv : Value} {rv : Nat → Value} {hv bv : Value}
set_option linter.unusedSimpArgs false in
set_option maxRecDepth 10000 in
set_option maxHeartbeats 4000000 in
theorem l2Seq_75 (w : World) (h : ScrV w base X d gv rv bv) (ha hc : Nat) (hs : Option Addr) (hhv : hv = .slice hs ha hc) (hk : OkP d) :
    Calls Tryz.prog 38 #[scrV d gv hv bv, .int .i64 0, .int .u8 75] w (SpR w base X (d.clr d.row.toNat d.col.toNat d.cols.toNat) hv) := by
  have hsz := size_bd hk
  have hrow := hk.row
  have hcol := hk.col
  have hR := hk.R
  obtain ⟨gb, gk, gc, cur, hgv, hgb0, hgb, hgk, hgn, hgm, hgA⟩ := id h.grid
  obtain ⟨ba, bc, hbv⟩ : ∃ a c, bv = .slice a d.nb c := by obtain ⟨_, h9, _⟩ := h.back; exact owns_ln h9
  subst hgv
  subst hbv
  subst hhv
  obtain ⟨i0, ei0⟩ : ∃ i0 : Nat, d.row = i0 := ⟨d.row.toNat, by omega⟩
  obtain ⟨j0, ej0⟩ : ∃ j0 : Nat, d.col = j0 := ⟨d.col.toNat, by omega⟩
  have hiR : i0 < d.R := by omega
  have hCi := hk.C i0 hiR
  obtain ⟨c, ec⟩ : ∃ c : Nat, d.cols = c := ⟨d.cols.toNat, by omega⟩
  have eCi : d.C i0 = c := by omega
  obtain ⟨g, cap, hg⟩ : ∃ g cap, rv i0 = .slice (some ⟨g, 0, none⟩) c cap := by
    rcases (h.row i0 hiR).form with ⟨_, e⟩ | ⟨g, cap, e⟩
    · omega
    · exact ⟨g, cap, by rw [e, eCi]⟩
  have r0 : w.cell? ⟨gb, gk + i0, none⟩ = some (rv i0) := cells_of hgb (gk + i0) _ (hgA i0 hiR)
  rw [hg] at r0
  have r2 : ∀ o o', ((w.alloc o).alloc o').cell? ⟨gb, gk + i0, none⟩ = some (.slice (some ⟨g, 0, none⟩) c cap) := fun o o' => (((Ext.refl w).alloc o).alloc o').cell r0
  obtain ⟨V, hV⟩ : ∃ V, V = (w.alloc (.cells #[.int .i64 d.cols, .int .i64 d.rows, .slice (some ⟨gb, gk, none⟩) d.R gc, .int .i64 d.row, .int .i64 d.col, .bool d.late, .slice hs ha hc, .slice ba d.nb bc] 26)).alloc (.cells #[.int .i64 0, .int .i64 0, .slice none 0 0, .int .i64 0, .int .i64 0, .bool false, .slice none 0 0, .slice none 0 0] 26) := ⟨_, rfl⟩
  have hb0 := sp_alloc w d (.slice (some ⟨gb, gk, none⟩) d.R gc) (.slice hs ha hc) (.slice ba d.nb bc)
  rw [← hV] at hb0
  have hW : ScrW V w.heap.size base (fun q => X q ∨ q = w.heap.size + 1) d (.slice (some ⟨gb, gk, none⟩) d.R gc) rv (.slice hs ha hc) (.slice ba d.nb bc) := (hb0.scr (rv := rv) (X := X) h).keepY (fun k hk => by
    have hV9 := lt_of_block hb0.z
    rcases hk with hk | hk
    · exact ⟨by have := (h.kept k hk).1; have := hb0.ext.size; omega, (h.kept k hk).2⟩
    · exact ⟨by omega, fun hw9 => by have := (h.foot hw9).2; omega⟩)
  have HCl := hide (fun W (hW9 : Ext V W) => l2Clear_any W (d.tx i0) (d.hf i0) (base := base) (g := g) (n := c) (cap := cap) (a := j0) (b := c) (by have h9 := (hW.row i0 hiR).ext hW9; rw [hg, eCi] at h9; exact h9) (by omega) (Nat.le_refl _) (by omega) (fun e => (hk.half i0 j0 hiR (by omega) e).2.1))
  rw [ei0, ej0, ec] at hV
  have HVV := hide hV
  have HW := hide hW
  have HSP := hide hb0
  have H := hide h
  have HK := hide hk
  have bi2 : (i0 : Int) < d.rows := by omega
  have bi3 : (0 : Int) ≤ (i0 : Int) := by omega
  have wi1 : IntKind.i64.wrap ((i0 : Int) + 1) = (i0 : Int) + 1 := by rw [IntKind.wrap_i64] <;> omega
  have hgF : gb ≠ w.heap.size := fun e => hW.below.2 (.inl (by rw [← e]; rfl))
  have hgZ : gb ≠ w.heap.size + 1 := fun e => (hW.kept _ (.inr rfl)).2 (.inl (by rw [← e]; rfl))
  have HX := hide (show base ≤ gb ∧ ¬ X gb from ⟨hgb0, fun hx => (h.kept gb hx).2 (.inl rfl)⟩)
  have HG := hide (rowG hW i0 hiR hg)
  have HGZ := hide (show g ≠ w.heap.size + 1 from fun e => (hW.kept _ (.inr rfl)).2 (.inr (.inl ⟨i0, hiR, by rw [hg, ← e]; rfl⟩)))
  clear h hk hgb hgA hb0 hW hV r0 hrow hcol
  rw [ei0, ej0, ec, Int.toNat_natCast, Int.toNat_natCast, Int.toNat_natCast]
  unfold scrV
  rw [ei0, ej0, ec]
  go_enter Tryz.func38, Tryz.ntmps38
  go_wp2_with fail
  rw [← unhide HVV]
  clear HVV r2
  have q0 : V.cell? ⟨w.heap.size, 0, none⟩ = some (.int .i64 c) := by rw [← ec]; exact cells_of (unhide HW).box 0 _ rfl
  have q2 : V.cell? ⟨w.heap.size, 2, none⟩ = some (.slice (some ⟨gb, gk, none⟩) d.R gc) := cells_of (unhide HW).box 2 _ rfl
  have q3 : V.cell? ⟨w.heap.size, 3, none⟩ = some (.int .i64 i0) := by rw [← ei0]; exact cells_of (unhide HW).box 3 _ rfl
  have q4 : V.cell? ⟨w.heap.size, 4, none⟩ = some (.int .i64 j0) := by rw [← ej0]; exact cells_of (unhide HW).box 4 _ rfl
  have q9 : V.cell? ⟨gb, gk + i0, none⟩ = some (.slice (some ⟨g, 0, none⟩) c cap) := by rw [← hg]; exact (unhide HW).grid.cellF hiR
  have HGF := hide (show g ≠ w.heap.size from fun e => (unhide HW).below.2 (.inr (.inl ⟨i0, hiR, by rw [hg, ← e]; rfl⟩)))
  have HGG := hide (show g ≠ gb from fun e => (unhide HW).rowGrid hiR (g := g) (by rw [hg]; rfl) (by rw [e]; rfl))
  go_region_held3 (fun W => W.cell? ⟨w.heap.size, 0, none⟩ = some (.int .i64 c) ∧ W.cell? ⟨w.heap.size, 2, none⟩ = some (.slice (some ⟨gb, gk, none⟩) d.R gc) ∧ W.cell? ⟨w.heap.size, 3, none⟩ = some (.int .i64 i0) ∧ W.cell? ⟨w.heap.size, 4, none⟩ = some (.int .i64 j0) ∧ W.cell? ⟨gb, gk + i0, none⟩ = some (.slice (some ⟨g, 0, none⟩) c cap)) (first | exact ⟨p0, p2, p3, p4, p9⟩ | exact ⟨q0, q2, q3, q4, q9⟩) (first
    | (go_at_call 90
       refine ((unhide HCl) V.drew (Ext.refl V).drew).mono ?_
       rintro e w1 ⟨rfl, o1, f1⟩
       have f2 : Fr (fun k => k = g) V w1 := Fr.tr (Fr.of_ext (Ext.refl V).drew) f1
       have bx := f2.kept (unhide HW).box (fun e => unhide HGF e.symm)
       have p0 : w1.cell? ⟨w.heap.size, 0, none⟩ = some (.int .i64 c) := (by rw [← ec]; exact cells_of bx 0 _ rfl)
       have p2 : w1.cell? ⟨w.heap.size, 2, none⟩ = some (.slice (some ⟨gb, gk, none⟩) d.R gc) := cells_of bx 2 _ rfl
       have p3 : w1.cell? ⟨w.heap.size, 3, none⟩ = some (.int .i64 i0) := (by rw [← ei0]; exact cells_of bx 3 _ rfl)
       have p4 : w1.cell? ⟨w.heap.size, 4, none⟩ = some (.int .i64 j0) := (by rw [← ej0]; exact cells_of bx 4 _ rfl)
       have p9 : w1.cell? ⟨gb, gk + i0, none⟩ = some (.slice (some ⟨g, 0, none⟩) c cap) := (by rw [← hg]; exact ((unhide HW).grid.fr f2 (fun q hq e => unhide HGG (by have e9 : gb = q := Option.some.inj hq; omega))).cellF hiR)
       have HO1 := hide o1
       have HFF := hide f2
       clear o1 f1 f2 bx))
  have o1 := unhide HO1
  have f1 := unhide HFF
  have HS1 : Hid (ScrW w1 w.heap.size base (fun q => X q ∨ q = w.heap.size + 1) (d.clr i0 j0 c) (.slice (some ⟨gb, gk, none⟩) d.R gc) rv (.slice hs ha hc) (.slice ba d.nb bc)) := hide ((unhide HW).clrAt i0 j0 c g cap hiR (by rw [hg, eCi]) (by rw [eCi]; exact o1) f1)
  have HF1 : Hid (FrV base X w w1) := hide (Fr.tr (Fr.of_ext (unhide HSP).ext) (f1.mono (fun q hq => by rw [hq]; exact unhide HG)))
  have HZ1 : Hid (w1.heap[w.heap.size + 1]? = some (.cells #[.int .i64 0, .int .i64 0, .slice none 0 0, .int .i64 0, .int .i64 0, .bool false, .slice none 0 0, .slice none 0 0] 26 (0, 0))) := hide (f1.kept (unhide HSP).z (fun e => unhide HGZ e.symm))
  clear o1 f1 HO1 HFF HCl HG HGZ HSP HW HGF HGG q0 q2 q3 q4 q9 p0 p2 p3 p4 p9
  have c3 : w1.cell? ⟨w.heap.size, 3, none⟩ = some (.int .i64 i0) := by rw [← ei0]; exact cells_of (unhide HS1).box 3 _ rfl
  have eC : ∀ k, k < d.R → d.C k = c := fun k hk9 => by have := (unhide HK).C k hk9; omega
  have HEC := hide eC
  have HHR := hide hR
  clear hCi eC hg HK
  go_wp2_with fail
  go_loopw [7] (fun v wr => v = .int .i64 ((i0 : Int) + 1) ∧ wr = w1) (fun v _ => 0)
  case atStart => exact ⟨rfl, rfl⟩
  case round =>
    obtain ⟨rfl, rfl⟩ := hrel
    have c1 : wr.cell? ⟨w.heap.size, 1, none⟩ = some (.int .i64 d.rows) := cells_of (unhide HS1).box 1 _ rfl
    by_cases hlt : (i0 : Int) + 1 < d.rows
    · have HQB : Hid (wr.heap[w.heap.size]? = some (.cells #[.int .i64 d.cols, .int .i64 d.rows, .slice (some ⟨gb, gk, none⟩) d.R gc, .int .i64 d.row, .int .i64 d.col, .bool d.late, .slice hs ha hc, .slice ba d.nb bc] 26 (0, 0))) := hide (unhide HS1).box
      go_wp2_with (first
        | (refine wpList_load_blk rfl 26 _ rfl w.heap.size rfl _ _ _ _ (unhide HQB) Tryz.underlying26 rfl infoScr8 ?_)
        | (refine wpList_store_blk rfl 26 _ _ rfl rfl (w.heap.size + 1) rfl _ _ _ rfl (unhide HZ1) infoScr8 rfl (by simp [Value.oneCell']) ?_; intro X9 HX9 hX9; have HXB := hide HX9; have HXF := hide hX9; clear HX9 hX9))
      have v0 := cells_of (unhide HXB) 0 _ rfl
      have v1 := cells_of (unhide HXB) 1 _ rfl
      have v2 := cells_of (unhide HXB) 2 _ rfl
      have v3 := cells_of (unhide HXB) 3 _ rfl
      have v4 := cells_of (unhide HXB) 4 _ rfl
      have v5 := cells_of (unhide HXB) 5 _ rfl
      have v6 := cells_of (unhide HXB) 6 _ rfl
      have v7 := cells_of (unhide HXB) 7 _ rfl
      have hV9 := (unhide HS1).toV.fr (unhide HXF) (fun g hg e => ((unhide HS1).kept g (.inr e)).2 hg)
      have hF9 : FrV base X w X9 := Fr.tr (unhide HF1) ((unhide HXF).mono (fun q hq => ⟨by have := (unhide H).top; omega, fun hx => by have := ((unhide H).kept q hx).1; omega⟩))
      refine bodyPost_ret (v := .agg #[.int .i64 d.cols, .int .i64 d.rows, .slice (some ⟨gb, gk, none⟩) d.R gc, .int .i64 d.row, .int .i64 d.col, .bool d.late, .slice hs ha hc, .slice ba d.nb bc]) (by simp [results, Tryz.results38, go_sem, v0, v1, v2, v3, v4, v5, v6, v7]) rfl ⟨.slice (some ⟨gb, gk, none⟩) d.R gc, rv, .slice ba d.nb bc, rfl, hV9.keep (fun k hk => .inl hk), hF9⟩
    · have HQB : Hid (wr.heap[w.heap.size]? = some (.cells #[.int .i64 d.cols, .int .i64 d.rows, .slice (some ⟨gb, gk, none⟩) d.R gc, .int .i64 d.row, .int .i64 d.col, .bool d.late, .slice hs ha hc, .slice ba d.nb bc] 26 (0, 0))) := hide (unhide HS1).box
      go_wp2_with (first
        | (refine wpList_load_blk rfl 26 _ rfl w.heap.size rfl _ _ _ _ (unhide HQB) Tryz.underlying26 rfl infoScr8 ?_)
        | (refine wpList_store_blk rfl 26 _ _ rfl rfl (w.heap.size + 1) rfl _ _ _ rfl (unhide HZ1) infoScr8 rfl (by simp [Value.oneCell']) ?_; intro X9 HX9 hX9; have HXB := hide HX9; have HXF := hide hX9; clear HX9 hX9))
      have v0 := cells_of (unhide HXB) 0 _ rfl
      have v1 := cells_of (unhide HXB) 1 _ rfl
      have v2 := cells_of (unhide HXB) 2 _ rfl
      have v3 := cells_of (unhide HXB) 3 _ rfl
      have v4 := cells_of (unhide HXB) 4 _ rfl
      have v5 := cells_of (unhide HXB) 5 _ rfl
      have v6 := cells_of (unhide HXB) 6 _ rfl
      have v7 := cells_of (unhide HXB) 7 _ rfl
      have hV9 := (unhide HS1).toV.fr (unhide HXF) (fun g hg e => ((unhide HS1).kept g (.inr e)).2 hg)
      have hF9 : FrV base X w X9 := Fr.tr (unhide HF1) ((unhide HXF).mono (fun q hq => ⟨by have := (unhide H).top; omega, fun hx => by have := ((unhide H).kept q hx).1; omega⟩))
      refine bodyPost_ret (v := .agg #[.int .i64 d.cols, .int .i64 d.rows, .slice (some ⟨gb, gk, none⟩) d.R gc, .int .i64 d.row, .int .i64 d.col, .bool d.late, .slice hs ha hc, .slice ba d.nb bc]) (by simp [results, Tryz.results38, go_sem, v0, v1, v2, v3, v4, v5, v6, v7]) rfl ⟨.slice (some ⟨gb, gk, none⟩) d.R gc, rv, .slice ba d.nb bc, rfl, hV9.keep (fun k hk => .inl hk), hF9⟩
set_option linter.unusedSimpArgs false in
set_option maxRecDepth 10000 in
set_option maxHeartbeats 4000000 in
theorem l2Seq_74 (w : World) (h : ScrV w base X d gv rv bv) (ha hc : Nat) (hs : Option Addr) (hhv : hv = .slice hs ha hc) (hk : OkP d) :
    Calls Tryz.prog 38 #[scrV d gv hv bv, .int .i64 0, .int .u8 74] w (SpR w base X ((d.clr d.row.toNat d.col.toNat d.cols.toNat).clrRows (d.row.toNat + 1)) hv) := by
  have hsz := size_bd hk
  have hrow := hk.row
  have hcol := hk.col
  have hR := hk.R
  obtain ⟨gb, gk, gc, cur, hgv, hgb0, hgb, hgk, hgn, hgm, hgA⟩ := id h.grid
  obtain ⟨ba, bc, hbv⟩ : ∃ a c, bv = .slice a d.nb c := by obtain ⟨_, h9, _⟩ := h.back; exact owns_ln h9
  subst hgv
  subst hbv
  subst hhv
  obtain ⟨i0, ei0⟩ : ∃ i0 : Nat, d.row = i0 := ⟨d.row.toNat, by omega⟩
  obtain ⟨j0, ej0⟩ : ∃ j0 : Nat, d.col = j0 := ⟨d.col.toNat, by omega⟩
  have hiR : i0 < d.R := by omega
  have hCi := hk.C i0 hiR
  obtain ⟨c, ec⟩ : ∃ c : Nat, d.cols = c := ⟨d.cols.toNat, by omega⟩
  have eCi : d.C i0 = c := by omega
  obtain ⟨g, cap, hg⟩ : ∃ g cap, rv i0 = .slice (some ⟨g, 0, none⟩) c cap := by
    rcases (h.row i0 hiR).form with ⟨_, e⟩ | ⟨g, cap, e⟩
    · omega
    · exact ⟨g, cap, by rw [e, eCi]⟩
  have r0 : w.cell? ⟨gb, gk + i0, none⟩ = some (rv i0) := cells_of hgb (gk + i0) _ (hgA i0 hiR)
  rw [hg] at r0
  have r2 : ∀ o o', ((w.alloc o).alloc o').cell? ⟨gb, gk + i0, none⟩ = some (.slice (some ⟨g, 0, none⟩) c cap) := fun o o' => (((Ext.refl w).alloc o).alloc o').cell r0
  obtain ⟨V, hV⟩ : ∃ V, V = (w.alloc (.cells #[.int .i64 d.cols, .int .i64 d.rows, .slice (some ⟨gb, gk, none⟩) d.R gc, .int .i64 d.row, .int .i64 d.col, .bool d.late, .slice hs ha hc, .slice ba d.nb bc] 26)).alloc (.cells #[.int .i64 0, .int .i64 0, .slice none 0 0, .int .i64 0, .int .i64 0, .bool false, .slice none 0 0, .slice none 0 0] 26) := ⟨_, rfl⟩
  have hb0 := sp_alloc w d (.slice (some ⟨gb, gk, none⟩) d.R gc) (.slice hs ha hc) (.slice ba d.nb bc)
  rw [← hV] at hb0
  have hW : ScrW V w.heap.size base (fun q => X q ∨ q = w.heap.size + 1) d (.slice (some ⟨gb, gk, none⟩) d.R gc) rv (.slice hs ha hc) (.slice ba d.nb bc) := (hb0.scr (rv := rv) (X := X) h).keepY (fun k hk => by
    have hV9 := lt_of_block hb0.z
    rcases hk with hk | hk
    · exact ⟨by have := (h.kept k hk).1; have := hb0.ext.size; omega, (h.kept k hk).2⟩
    · exact ⟨by omega, fun hw9 => by have := (h.foot hw9).2; omega⟩)
  have HCl := hide (fun W (hW9 : Ext V W) => l2Clear_any W (d.tx i0) (d.hf i0) (base := base) (g := g) (n := c) (cap := cap) (a := j0) (b := c) (by have h9 := (hW.row i0 hiR).ext hW9; rw [hg, eCi] at h9; exact h9) (by omega) (Nat.le_refl _) (by omega) (fun e => (hk.half i0 j0 hiR (by omega) e).2.1))
  rw [ei0, ej0, ec] at hV
  have HVV := hide hV
  have HW := hide hW
  have HSP := hide hb0
  have H := hide h
  have HK := hide hk
  have bi2 : (i0 : Int) < d.rows := by omega
  have bi3 : (0 : Int) ≤ (i0 : Int) := by omega
  have wi1 : IntKind.i64.wrap ((i0 : Int) + 1) = (i0 : Int) + 1 := by rw [IntKind.wrap_i64] <;> omega
  have hgF : gb ≠ w.heap.size := fun e => hW.below.2 (.inl (by rw [← e]; rfl))
  have hgZ : gb ≠ w.heap.size + 1 := fun e => (hW.kept _ (.inr rfl)).2 (.inl (by rw [← e]; rfl))
  have HX := hide (show base ≤ gb ∧ ¬ X gb from ⟨hgb0, fun hx => (h.kept gb hx).2 (.inl rfl)⟩)
  have HG := hide (rowG hW i0 hiR hg)
  have HGZ := hide (show g ≠ w.heap.size + 1 from fun e => (hW.kept _ (.inr rfl)).2 (.inr (.inl ⟨i0, hiR, by rw [hg, ← e]; rfl⟩)))
  clear h hk hgb hgA hb0 hW hV r0 hrow hcol
  rw [ei0, ej0, ec, Int.toNat_natCast, Int.toNat_natCast, Int.toNat_natCast]
  unfold scrV
  rw [ei0, ej0, ec]
  go_enter Tryz.func38, Tryz.ntmps38
  go_wp2_with fail
  rw [← unhide HVV]
  clear HVV r2
  have q0 : V.cell? ⟨w.heap.size, 0, none⟩ = some (.int .i64 c) := by rw [← ec]; exact cells_of (unhide HW).box 0 _ rfl
  have q2 : V.cell? ⟨w.heap.size, 2, none⟩ = some (.slice (some ⟨gb, gk, none⟩) d.R gc) := cells_of (unhide HW).box 2 _ rfl
  have q3 : V.cell? ⟨w.heap.size, 3, none⟩ = some (.int .i64 i0) := by rw [← ei0]; exact cells_of (unhide HW).box 3 _ rfl
  have q4 : V.cell? ⟨w.heap.size, 4, none⟩ = some (.int .i64 j0) := by rw [← ej0]; exact cells_of (unhide HW).box 4 _ rfl
  have q9 : V.cell? ⟨gb, gk + i0, none⟩ = some (.slice (some ⟨g, 0, none⟩) c cap) := by rw [← hg]; exact (unhide HW).grid.cellF hiR
  have HGF := hide (show g ≠ w.heap.size from fun e => (unhide HW).below.2 (.inr (.inl ⟨i0, hiR, by rw [hg, ← e]; rfl⟩)))
  have HGG := hide (show g ≠ gb from fun e => (unhide HW).rowGrid hiR (g := g) (by rw [hg]; rfl) (by rw [e]; rfl))
  go_region_held3 (fun W => W.cell? ⟨w.heap.size, 0, none⟩ = some (.int .i64 c) ∧ W.cell? ⟨w.heap.size, 2, none⟩ = some (.slice (some ⟨gb, gk, none⟩) d.R gc) ∧ W.cell? ⟨w.heap.size, 3, none⟩ = some (.int .i64 i0) ∧ W.cell? ⟨w.heap.size, 4, none⟩ = some (.int .i64 j0) ∧ W.cell? ⟨gb, gk + i0, none⟩ = some (.slice (some ⟨g, 0, none⟩) c cap)) (first | exact ⟨p0, p2, p3, p4, p9⟩ | exact ⟨q0, q2, q3, q4, q9⟩) (first
    | (go_at_call 90
       refine ((unhide HCl) V.drew (Ext.refl V).drew).mono ?_
       rintro e w1 ⟨rfl, o1, f1⟩
       have f2 : Fr (fun k => k = g) V w1 := Fr.tr (Fr.of_ext (Ext.refl V).drew) f1
       have bx := f2.kept (unhide HW).box (fun e => unhide HGF e.symm)
       have p0 : w1.cell? ⟨w.heap.size, 0, none⟩ = some (.int .i64 c) := (by rw [← ec]; exact cells_of bx 0 _ rfl)
       have p2 : w1.cell? ⟨w.heap.size, 2, none⟩ = some (.slice (some ⟨gb, gk, none⟩) d.R gc) := cells_of bx 2 _ rfl
       have p3 : w1.cell? ⟨w.heap.size, 3, none⟩ = some (.int .i64 i0) := (by rw [← ei0]; exact cells_of bx 3 _ rfl)
       have p4 : w1.cell? ⟨w.heap.size, 4, none⟩ = some (.int .i64 j0) := (by rw [← ej0]; exact cells_of bx 4 _ rfl)
       have p9 : w1.cell? ⟨gb, gk + i0, none⟩ = some (.slice (some ⟨g, 0, none⟩) c cap) := (by rw [← hg]; exact ((unhide HW).grid.fr f2 (fun q hq e => unhide HGG (by have e9 : gb = q := Option.some.inj hq; omega))).cellF hiR)
       have HO1 := hide o1
       have HFF := hide f2
       clear o1 f1 f2 bx))
  have o1 := unhide HO1
  have f1 := unhide HFF
  have HS1 : Hid (ScrW w1 w.heap.size base (fun q => X q ∨ q = w.heap.size + 1) (d.clr i0 j0 c) (.slice (some ⟨gb, gk, none⟩) d.R gc) rv (.slice hs ha hc) (.slice ba d.nb bc)) := hide ((unhide HW).clrAt i0 j0 c g cap hiR (by rw [hg, eCi]) (by rw [eCi]; exact o1) f1)
  have HF1 : Hid (FrV base X w w1) := hide (Fr.tr (Fr.of_ext (unhide HSP).ext) (f1.mono (fun q hq => by rw [hq]; exact unhide HG)))
  have HZ1 : Hid (w1.heap[w.heap.size + 1]? = some (.cells #[.int .i64 0, .int .i64 0, .slice none 0 0, .int .i64 0, .int .i64 0, .bool false, .slice none 0 0, .slice none 0 0] 26 (0, 0))) := hide (f1.kept (unhide HSP).z (fun e => unhide HGZ e.symm))
  clear o1 f1 HO1 HFF HCl HG HGZ HSP HW HGF HGG q0 q2 q3 q4 q9 p0 p2 p3 p4 p9
  have c3 : w1.cell? ⟨w.heap.size, 3, none⟩ = some (.int .i64 i0) := by rw [← ei0]; exact cells_of (unhide HS1).box 3 _ rfl
  have eC : ∀ k, k < d.R → d.C k = c := fun k hk9 => by have := (unhide HK).C k hk9; omega
  have HEC := hide eC
  have HHR := hide hR
  clear hCi eC hg HK
  go_wp2_with fail
  have HS0 : Hid (ScrW w1 w.heap.size base (fun q => X q ∨ q = w.heap.size + 1) ((d.clr i0 j0 c).clrUp (i0 + 1) (i0 + 1)) (.slice (some ⟨gb, gk, none⟩) d.R gc) rv (.slice hs ha hc) (.slice ba d.nb bc)) := hide ((unhide HS1).texts _ _ (fun p q _ _ => by
    show _ = (if i0 + 1 ≤ p ∧ p < i0 + 1 then bz else (d.clr i0 j0 c).tx p q) ∧ _ = (if i0 + 1 ≤ p ∧ p < i0 + 1 then false else (d.clr i0 j0 c).hf p q)
    rw [if_neg (by omega), if_neg (by omega)]
    exact ⟨rfl, rfl⟩))
  go_loopw [7] (fun v wr => ∃ (k : Nat) (rv' : Nat → Value), i0 + 1 ≤ k ∧ k ≤ d.R ∧ v = .int .i64 k ∧ Hid (ScrW wr w.heap.size base (fun q => X q ∨ q = w.heap.size + 1) ((d.clr i0 j0 c).clrUp (i0 + 1) k) (.slice (some ⟨gb, gk, none⟩) d.R gc) rv' (.slice hs ha hc) (.slice ba d.nb bc)) ∧ Hid (FrV base X w wr) ∧ Hid (wr.heap[w.heap.size + 1]? = some (.cells #[.int .i64 0, .int .i64 0, .slice none 0 0, .int .i64 0, .int .i64 0, .bool false, .slice none 0 0, .slice none 0 0] 26 (0, 0)))) (fun v _ => d.R - (intOf v).toNat)
  case atStart => exact ⟨i0 + 1, rv, Nat.le_refl _, by have := unhide HHR; omega, by simp, HS0, HF1, HZ1⟩
  case round =>
    clear HS1 HS0 HF1 HZ1 c3
    obtain ⟨k, rv', hk1, hk2, rfl, HSk, HFk, HZk⟩ := hrel
    have e1 : wr.cell? ⟨w.heap.size, 1, none⟩ = some (.int .i64 d.rows) := cells_of (unhide HSk).box 1 _ rfl
    by_cases hlt : k < d.R
    · have b1 : (k : Int) < d.rows := by have := unhide HHR; omega
      have b2 : (0 : Int) ≤ (k : Int) := by omega
      have e2 : wr.cell? ⟨w.heap.size, 2, none⟩ = some (.slice (some ⟨gb, gk, none⟩) d.R gc) := cells_of (unhide HSk).box 2 _ rfl
      have e0 : wr.cell? ⟨w.heap.size, 0, none⟩ = some (.int .i64 c) := by rw [← ec]; exact cells_of (unhide HSk).box 0 _ rfl
      have HBl := hide (fun W => l2Blank_any c W (by omega))
      have HCG := hide (fun W (hW9 : Ext wr W) => (unhide HSk).grid.cellO hW9 k hlt)
      have HEk := hide ((unhide HEC) k hlt)
      have wk : IntKind.i64.wrap ((k : Int) + 1) = (k : Int) + 1 := by rw [IntKind.wrap_i64] <;> omega
      go_wp2_with fail
      go_region_held3 (fun W => W.cell? ⟨w.heap.size, 2, none⟩ = some (.slice (some ⟨gb, gk, none⟩) d.R gc) ∧ W.cell? ⟨w.heap.size, 0, none⟩ = some (.int .i64 c)) (first | exact ⟨p2, p0⟩ | exact ⟨q2, q0⟩ | exact ⟨e2, e0⟩) (first
        | (go_at_call 91
           refine ((unhide HBl) wr.drew).mono ?_
           rintro e w6 ⟨rfl, row6, E6⟩
           have E7 : Ext wr w6 := (Ext.refl wr).drew.trans E6
           have q2 := E7.cell e2
           have q0 := E7.cell e0
           obtain ⟨⟨old, k6⟩, k6f⟩ := (unhide HCG) w6 E7
           have fs := fun u => Fr.setCell (S := fun q => q = gb) (Fr.refl (fun q => q = gb) w6) (a := ⟨gb, gk + k, none⟩) rfl u
           have bx := fun u => (fs u).kept (E7.kept (unhide HSk).box) (fun e => hgF e.symm)
           have p2 := cells_of (bx (.slice (some ⟨wr.heap.size, 0, none⟩) c c)) 2 _ rfl
           have p0 : (w6.setCell ⟨gb, gk + k, none⟩ (.slice (some ⟨wr.heap.size, 0, none⟩) c c)).cell? ⟨w.heap.size, 0, none⟩ = some (.int .i64 c) := (by rw [← ec]; exact cells_of (bx (.slice (some ⟨wr.heap.size, 0, none⟩) c c)) 0 _ rfl)
           have HR6 := hide row6
           have HE7 := hide E7
           clear row6 E6 E7 fs bx))
      have hnew := (unhide HSk).newRow (c := c) (unhide HE7) hlt (unhide HEk) (unhide HR6)
      have HSn := hide (hnew.1.clrUp_new hk1)
      have HFn := hide (Fr.tr (unhide HFk) (hnew.2.mono (fun q hq => by rw [hq]; exact unhide HX)))
      have HZn := hide (hnew.2.kept (unhide HZk) (fun e => hgZ e.symm))
      clear hnew p2 p0 q2 q0 k6 k6f HCG HBl e0 e1 e2 HSk HFk HZk HR6 HE7
      go_wp2
      go_roundw
      case rel => exact ⟨k + 1, _, by omega, by omega, by go_num, HSn, HFn, HZn⟩
      case measure => simp [intOf]; omega
    · have b1 : ¬ (k : Int) < d.rows := by have := unhide HHR; omega
      have hkR : k = d.R := by omega
      have HSf : Hid (ScrW wr w.heap.size base (fun q => X q ∨ q = w.heap.size + 1) ((d.clr i0 j0 c).clrRows (i0 + 1)) (.slice (some ⟨gb, gk, none⟩) d.R gc) rv' (.slice hs ha hc) (.slice ba d.nb bc)) := hide ((unhide HSk).texts _ _ (fun p q hp _ => by
        have hp2 : p < d.R := hp
        show (if i0 + 1 ≤ p ∧ p < k then bz else (d.clr i0 j0 c).tx p q) = (if i0 + 1 ≤ p then bz else (d.clr i0 j0 c).tx p q) ∧ (if i0 + 1 ≤ p ∧ p < k then false else (d.clr i0 j0 c).hf p q) = (if i0 + 1 ≤ p then false else (d.clr i0 j0 c).hf p q)
        by_cases e9 : i0 + 1 ≤ p
        · rw [if_pos ⟨e9, by omega⟩, if_pos e9, if_pos ⟨e9, by omega⟩, if_pos e9]
          exact ⟨rfl, rfl⟩
        · rw [if_neg (fun x => e9 x.1), if_neg e9, if_neg (fun x => e9 x.1), if_neg e9]
          exact ⟨rfl, rfl⟩))
      clear HSk
      have HQB : Hid (wr.heap[w.heap.size]? = some (.cells #[.int .i64 d.cols, .int .i64 d.rows, .slice (some ⟨gb, gk, none⟩) d.R gc, .int .i64 d.row, .int .i64 d.col, .bool d.late, .slice hs ha hc, .slice ba d.nb bc] 26 (0, 0))) := hide (unhide HSf).box
      go_wp2_with (first
        | (refine wpList_load_blk rfl 26 _ rfl w.heap.size rfl _ _ _ _ (unhide HQB) Tryz.underlying26 rfl infoScr8 ?_)
        | (refine wpList_store_blk rfl 26 _ _ rfl rfl (w.heap.size + 1) rfl _ _ _ rfl (unhide HZk) infoScr8 rfl (by simp [Value.oneCell']) ?_; intro X9 HX9 hX9; have HXB := hide HX9; have HXF := hide hX9; clear HX9 hX9))
      have v0 := cells_of (unhide HXB) 0 _ rfl
      have v1 := cells_of (unhide HXB) 1 _ rfl
      have v2 := cells_of (unhide HXB) 2 _ rfl
      have v3 := cells_of (unhide HXB) 3 _ rfl
      have v4 := cells_of (unhide HXB) 4 _ rfl
      have v5 := cells_of (unhide HXB) 5 _ rfl
      have v6 := cells_of (unhide HXB) 6 _ rfl
      have v7 := cells_of (unhide HXB) 7 _ rfl
      have hV9 := (unhide HSf).toV.fr (unhide HXF) (fun g hg e => ((unhide HSf).kept g (.inr e)).2 hg)
      have hF9 : FrV base X w X9 := Fr.tr (unhide HFk) ((unhide HXF).mono (fun q hq => ⟨by have := (unhide H).top; omega, fun hx => by have := ((unhide H).kept q hx).1; omega⟩))
      refine bodyPost_ret (v := .agg #[.int .i64 d.cols, .int .i64 d.rows, .slice (some ⟨gb, gk, none⟩) d.R gc, .int .i64 d.row, .int .i64 d.col, .bool d.late, .slice hs ha hc, .slice ba d.nb bc]) (by simp [results, Tryz.results38, go_sem, v0, v1, v2, v3, v4, v5, v6, v7]) rfl ⟨.slice (some ⟨gb, gk, none⟩) d.R gc, rv', .slice ba d.nb bc, rfl, hV9.keep (fun k hk => .inl hk), hF9⟩
end
end Go.Proofs.YtinfdhbnljnifaaGreatDoor

namespace Go.Proofs.YtinfdhbnljnifaaGreatDoor
open Go.RowKit
theorem decL_valid {s : List Int} (hb : Bytes s) : Utf8.valid (decL s).1 = true := by
  have h0 := hb.at0 0
  unfold decL
  by_cases h1 : at0 s 0 < 128
  · rw [if_pos h1]
    unfold Utf8.valid; simp; omega
  rw [if_neg h1]
  by_cases h2 : (192 ≤ at0 s 0 ∧ at0 s 0 < 224) ∧ cont s 1 = true
  · rw [if_pos h2]
    have hc : 128 ≤ at0 s 1 ∧ at0 s 1 ≤ 191 := by have h9 := h2.2; unfold cont at h9; simp at h9; omega
    by_cases h3 : 128 ≤ v2 s
    · rw [if_pos h3]
      show Utf8.valid (v2 s) = true
      unfold v2 at h3 ⊢; unfold Utf8.valid; simp; omega
    · rw [if_neg h3]; decide
  rw [if_neg h2]
  by_cases h3 : (224 ≤ at0 s 0 ∧ at0 s 0 < 240) ∧ cont s 1 = true ∧ cont s 2 = true
  · rw [if_pos h3]
    by_cases h4 : 2048 ≤ v3 s ∧ Utf8.valid (v3 s) = true
    · rw [if_pos h4]; exact h4.2
    · rw [if_neg h4]; decide
  rw [if_neg h3]
  by_cases h4 : (240 ≤ at0 s 0 ∧ at0 s 0 < 248) ∧ cont s 1 = true ∧ cont s 2 = true ∧ cont s 3 = true
  · rw [if_pos h4]
    by_cases h5 : 65536 ≤ v4 s ∧ Utf8.valid (v4 s) = true
    · rw [if_pos h5]; exact h5.2
    · rw [if_neg h5]; decide
  rw [if_neg h4]
  decide
section
variable {base : Nat} {X : Nat → Prop} {d : SD} {gv : Value} {rv : Nat → Value} {hv bv : Value}
theorem l2Show_any (w : World) (h : ScrV w base X d gv rv bv) (ha hc : Nat) (hs : Option Addr) (hhv : hv = .slice hs ha hc) (hk : OkP d) (r : Int) (hvr : Utf8.valid r = true) (h13 : r ≠ 13) (h10 : r ≠ 10) (hw : rsz (d.tx 0) (d.C 0) ≤ 1073741824) (hnb : d.nb ≤ 16777216) :
    Calls Tryz.prog 43 #[scrV d gv hv bv, .int .i64 r] w (SpR w base X (d.shw rowT r) hv) := by
  obtain ⟨hr0, hr1⟩ := valid_bd hvr
  unfold SD.shw
  rw [if_neg h13, if_neg h10]
  by_cases hct : r < 32 ∨ (127 ≤ r ∧ r ≤ 159)
  · rw [if_pos hct]
    exact l2Show_ctl w h ha hc hs hhv r hr0 hr1 hct
  · rw [if_neg hct]
    rcases wid_three r with e | e | e
    · rw [if_pos e]
      exact l2Show_mark w h ha hc hs hhv r hr0 hr1 hk hvr hct e
    · rw [if_neg (by omega), e]
      exact l2Show_put1 w h ha hc hs hhv r hr0 hr1 hk hvr hct e hw hnb
    · rw [if_neg (by omega), e]
      exact l2Show_put2 w h ha hc hs hhv r hr0 hr1 hk hvr hct e hw hnb
theorem l2Seq_any (w : World) (h : ScrV w base X d gv rv bv) (ha hc : Nat) (hs : Option Addr) (hhv : hv = .slice hs ha hc) (hk : OkP d) (n last : Int) (hn : n ≤ 100000) :
    Calls Tryz.prog 38 #[scrV d gv hv bv, .int .i64 n, .int .u8 last] w (SpR w base X (d.sq n last) hv) := by
  unfold SD.sq
  by_cases h0 : n < 0
  · rw [if_pos h0]
    exact l2Seq_neg w h ha hc hs hhv hk n last h0
  rw [if_neg h0]
  have hn0 : 0 ≤ n := by omega
  by_cases h75 : last = 75
  · rw [if_pos h75]
    subst h75
    by_cases hz : n = 0
    · rw [if_pos hz]
      subst hz
      exact l2Seq_75 w h ha hc hs hhv hk
    · rw [if_neg hz]
      exact l2Seq_other w h ha hc hs hhv hk n 75 hn0 (by decide) (by decide) (by decide) (by decide) (by decide) (fun e => absurd e hz)
  rw [if_neg h75]
  by_cases h74 : last = 74
  · rw [if_pos h74]
    subst h74
    by_cases hz : n = 0
    · rw [if_pos hz]
      subst hz
      exact l2Seq_74 w h ha hc hs hhv hk
    · rw [if_neg hz]
      exact l2Seq_other w h ha hc hs hhv hk n 74 hn0 (by decide) (by decide) (by decide) (by decide) (by decide) (fun e => absurd e hz)
  rw [if_neg h74]
  by_cases h65 : last = 65
  · rw [if_pos h65]
    subst h65
    exact l2Seq_65 w h ha hc hs hhv hk n hn0 hn
  rw [if_neg h65]
  by_cases h66 : last = 66
  · rw [if_pos h66]
    subst h66
    exact l2Seq_66 w h ha hc hs hhv hk n hn0 hn
  rw [if_neg h66]
  by_cases h67 : last = 67
  · rw [if_pos h67]
    subst h67
    exact l2Seq_67 w h ha hc hs hhv hk n hn0 hn
  rw [if_neg h67]
  by_cases h68 : last = 68
  · rw [if_pos h68]
    subst h68
    exact l2Seq_68 w h ha hc hs hhv hk n hn0 hn
  rw [if_neg h68]
  by_cases h71 : last = 71
  · rw [if_pos h71]
    subst h71
    exact l2Seq_71 w h ha hc hs hhv hk n hn0 hn
  rw [if_neg h71]
  exact l2Seq_other w h ha hc hs hhv hk n last hn0 h65 h66 h67 h68 h71 (fun _ => ⟨h75, h74⟩)
end
end Go.Proofs.YtinfdhbnljnifaaGreatDoor

namespace Go.Proofs.YtinfdhbnljnifaaGreatDoor
open Go.RowKit
theorem fd_from {w : World} {base : Nat} {a : Option Addr} {c : Nat} {A : List Int} (h : w.ownsRow base 5 1 (.slice a A.length c) A.length (A.map (Value.int .u8))) (i : Nat) (hi : i < A.length) : ∃ g, a = some ⟨g, 0, none⟩ ∧ A.length ≤ c ∧ IntsAt w .u8 (.slice (some ⟨g, i, none⟩) (A.length - i) (c - i)) (A.drop i) := by
  rcases h.2 with ⟨_, e0⟩ | ⟨g, cc, cur, e0, hg, hb, hcc, _, _, ht⟩
  · omega
  · obtain ⟨e1, _, e2⟩ := Value.slice.inj e0
    subst e1
    subst e2
    refine ⟨g, rfl, hcc, ⟨some ⟨g, i, none⟩, c - i, by rw [List.length_drop], by rw [List.length_drop]; omega, fun _ => ⟨g, i, rfl, fun j hj => ?_⟩⟩⟩
    obtain ⟨_, cap9, h9, _, h8⟩ := ints_of_owns h
    obtain ⟨b9, o9, e9, hc9⟩ := h8 (by omega)
    obtain ⟨rfl, rfl⟩ : b9 = g ∧ o9 = 0 := by
      have := (Value.slice.inj h9).1
      rw [e9] at this
      simpa using (Option.some.inj this).symm
    have := hc9 (i + j) (by simp at hj; omega)
    rw [at0_drop]
    simpa using this
theorem fd_src0 (w : World) (size : Nat) (a : Option Addr) (c : Nat) : Src w size (.slice a 0 c) 0 [] := by
  refine ⟨by simp, fun u hu => by simp at hu, ?_⟩
  cases a with
  | none => exact .inl ⟨c, rfl, rfl⟩
  | some ad => exact .inr ⟨ad, c, rfl, fun j u hj => by simp at hj⟩
theorem fd_take (l : List Int) (n j : Nat) (h : j < n) : at0 (l.take n) j = at0 l j := by simp [at0, h]
structure FI (w wr : World) (B0 base : Nat) (a3 : Option Addr) (c3 : Nat) (A : List Int) (Z : Array Value) (Fin : SD) (M N i : Nat) (d : SD) (gv : Value) (rv : Nat → Value) (hv bv : Value) : Prop where
  scr : ScrW wr B0 base (fun q => Value.ownBlock (.slice a3 A.length c3) = some q) d gv rv hv bv
  all : wr.ownsRow base 5 1 (.slice a3 A.length c3) A.length (A.map (Value.int .u8))
  z : wr.heap[B0 + 1]? = some (.cells Z 26 (0, 0))
  ext : Ext w wr
  ok : OkP d
  wt : WtB d (M + 4 * i)
  nb : d.nb ≤ N + i
  end0 : Fin = { d.acts rowT (fd (A.drop i)).1 with hold := fdH (A.drop i) }
section
variable {w wr Y : World} {B0 base : Nat} {a3 : Option Addr} {c3 : Nat} {A : List Int} {Z : Array Value} {Fin : SD} {M N i : Nat} {d : SD} {gv : Value} {rv : Nat → Value} {hv bv : Value}
theorem FI.step (h : FI w wr B0 base a3 c3 A Z Fin M N i d gv rv hv bv) {ks : List FAct} {m : Nat} (hst : fdStep (A.drop i) = some (ks, m)) {gv' : Value} {rv' : Nat → Value} {bv' : Value} (hS : ScrW Y B0 base (fun q => Value.ownBlock (.slice a3 A.length c3) = some q) (d.acts rowT ks) gv' rv' hv bv') (f : FrW B0 base (fun q => Value.ownBlock (.slice a3 A.length c3) = some q) wr Y) (hM : 200 ≤ M) (hB : B0 + 1 < base) (hw : w.heap.size ≤ B0) :
    FI w Y B0 base a3 c3 A Z Fin M N (i + m) (d.acts rowT ks) gv' rv' hv bv' := by
  obtain ⟨b1, b2, b3⟩ := acts_bd rowT ks h.ok h.wt (by omega : 200 ≤ M + 4 * i)
  have hc := fdStep_c _ _ _ hst
  refine ⟨hS, f.owns h.all ?_, f.kept h.z (by rintro (e | e) <;> omega), f.ext h.ext (fun q hq => by rcases hq with e | e <;> omega), b1, b2.mono (by omega), by have := h.nb; omega, ?_⟩
  · rintro g hg (e | ⟨_, e⟩)
    · have := (h.all.lt g hg).1; omega
    · exact e hg
  · rw [h.end0, show fd (A.drop i) = (ks ++ (fd ((A.drop i).drop m)).1, m + (fd ((A.drop i).drop m)).2) from gR_some fdStep_n hst, acts_app, List.drop_drop]
    have e2 : fdH (A.drop i) = fdH (A.drop (i + m)) := by
      show (A.drop i).drop (fd (A.drop i)).2 = (A.drop (i + m)).drop (fd (A.drop (i + m))).2
      rw [show fd (A.drop i) = (ks ++ (fd ((A.drop i).drop m)).1, m + (fd ((A.drop i).drop m)).2) from gR_some fdStep_n hst]
      simp only [List.drop_drop]
      congr 1
      omega
    rw [e2]
theorem FI.fin (h : FI w wr B0 base a3 c3 A Z Fin M N i d gv rv hv bv) (hst : fdStep (A.drop i) = none) : Fin = { d with hold := A.drop i } := by
  rw [h.end0, show fd (A.drop i) = ([], 0) from gR_none hst]
  show ({ d with hold := (A.drop i).drop (fd (A.drop i)).2 } : SD) = _
  rw [show fd (A.drop i) = ([], 0) from gR_none hst]
  rfl
theorem FI.fits (h : FI w wr B0 base a3 c3 A Z Fin M N i d gv rv hv bv) (hM : M + 4 * i ≤ 1073741824) (hN : N + i ≤ 16777216) : rsz (d.tx 0) (d.C 0) ≤ 1073741824 ∧ d.nb ≤ 16777216 := by
  have hs := size_bd h.ok
  have hR := h.ok.R
  exact ⟨Nat.le_trans (h.wt 0 (by omega)) hM, Nat.le_trans h.nb hN⟩
theorem FI.ext4 (h : FI w wr B0 base a3 c3 A Z Fin M N i d gv rv hv bv) (E : Ext wr Y) : FI w Y B0 base a3 c3 A Z Fin M N i d gv rv hv bv :=
  ⟨h.scr.ext E, E.owns h.all, E.kept h.z, h.ext.trans E, h.ok, h.wt, h.nb, h.end0⟩
theorem ints_cell {g c : Nat} (h : wr.ownsRow base 5 1 (.slice (some ⟨g, 0, none⟩) A.length c) A.length (A.map (Value.int .u8))) (j : Nat) (hj : j < A.length) : wr.cell? ⟨g, j, none⟩ = some (.int .u8 (at0 A j)) := by
  obtain ⟨_, cap9, h9, _, h8⟩ := ints_of_owns h
  obtain ⟨b9, o9, e9, hc9⟩ := h8 (by omega)
  obtain ⟨rfl, rfl⟩ : b9 = g ∧ o9 = 0 := by
    have := (Value.slice.inj h9).1
    rw [e9] at this
    simpa using (Option.some.inj this).symm
  have := hc9 j hj
  simpa using this
end
section
variable {s : List Int}
theorem decL_no (h13 : at0 s 0 ≠ 13) (h10 : at0 s 0 ≠ 10) : (decL s).1 ≠ 13 ∧ (decL s).1 ≠ 10 := by
  unfold decL
  by_cases h1 : at0 s 0 < 128
  · rw [if_pos h1]
    exact ⟨h13, h10⟩
  rw [if_neg h1]
  by_cases h2 : (192 ≤ at0 s 0 ∧ at0 s 0 < 224) ∧ cont s 1 = true
  · rw [if_pos h2]
    by_cases h3 : 128 ≤ v2 s
    · rw [if_pos h3]
      exact ⟨by show v2 s ≠ 13; omega, by show v2 s ≠ 10; omega⟩
    · rw [if_neg h3]; decide
  rw [if_neg h2]
  by_cases h3 : (224 ≤ at0 s 0 ∧ at0 s 0 < 240) ∧ cont s 1 = true ∧ cont s 2 = true
  · rw [if_pos h3]
    by_cases h4 : 2048 ≤ v3 s ∧ Utf8.valid (v3 s) = true
    · rw [if_pos h4]
      exact ⟨by show v3 s ≠ 13; omega, by show v3 s ≠ 10; omega⟩
    · rw [if_neg h4]; decide
  rw [if_neg h3]
  by_cases h4 : (240 ≤ at0 s 0 ∧ at0 s 0 < 248) ∧ cont s 1 = true ∧ cont s 2 = true ∧ cont s 3 = true
  · rw [if_pos h4]
    by_cases h5 : 65536 ≤ v4 s ∧ Utf8.valid (v4 s) = true
    · rw [if_pos h5]
      exact ⟨by show v4 s ≠ 13; omega, by show v4 s ≠ 10; omega⟩
    · rw [if_neg h5]; decide
  rw [if_neg h4]
  decide
theorem step_13 (h0 : 0 < s.length) (h : at0 s 0 = 13) : fdStep s = some ([.shw 13], 1) := by
  unfold fdStep
  have hn : need 13 = 1 := by decide
  have hl9 : ¬ s.length < 1 := by omega
  have hb : begB s = false := by unfold begB; rw [h, hn]; simp [hl9]
  have hd : decL s = (13, 1) := by unfold decL; rw [h, if_pos (by omega)]
  rw [if_neg (by omega), if_neg (by omega), hb, hd]
  simp
theorem step_10 (h0 : 0 < s.length) (h : at0 s 0 = 10) : fdStep s = some ([.shw 10], 1) := by
  unfold fdStep
  have hn : need 10 = 1 := by decide
  have hl9 : ¬ s.length < 1 := by omega
  have hb : begB s = false := by unfold begB; rw [h, hn]; simp [hl9]
  have hd : decL s = (10, 1) := by unfold decL; rw [h, if_pos (by omega)]
  rw [if_neg (by omega), if_neg (by omega), hb, hd]
  simp
theorem step_begun (h : at0 s 0 ≠ 27) (hb : begB s = true) : fdStep s = none := by
  unfold fdStep
  by_cases h0 : s.length = 0
  · rw [if_pos h0]
  · rw [if_neg h0, if_neg h, if_pos hb]
theorem step_rune (h0 : 0 < s.length) (h : at0 s 0 ≠ 27) (hb : begB s = false) : fdStep s = some ([.shw (decL s).1], (decL s).2) := by
  unfold fdStep
  rw [if_neg (by omega), if_neg h, hb]
  simp
theorem step_esc0 (h : at0 s 0 = 27) (he : (escR s).1 = 0) : fdStep s = none := by
  unfold fdStep
  unfold escR at he
  by_cases h0 : s.length = 0
  · rw [if_pos h0]
  rw [if_neg h0, if_pos h]
  by_cases h1 : s.length ≤ 1
  · rw [if_pos h1]
  rw [if_neg h1] at he ⊢
  by_cases h2 : at0 s 1 ≠ 91
  · rw [if_pos h2] at he; simp at he
  rw [if_neg h2] at he ⊢
  by_cases h3 : 30 < numR (s.drop 2)
  · rw [if_pos h3] at he; simp at he
  rw [if_neg h3] at he ⊢
  by_cases h4 : s.length ≤ 2 + numR (s.drop 2)
  · rw [if_pos h4]
  rw [if_neg h4] at he
  simp at he
  omega
theorem step_escN (h : at0 s 0 = 27) (he : (escR s).1 ≠ 0) (hq : (escR s).2 = false) : fdStep s = some ([], (escR s).1.toNat) := by
  unfold fdStep
  unfold escR at he hq ⊢
  by_cases h1 : s.length ≤ 1
  · rw [if_pos h1] at he; simp at he
  rw [if_neg h1] at he hq ⊢
  rw [if_neg (by omega), if_pos h, if_neg h1]
  by_cases h2 : at0 s 1 ≠ 91
  · rw [if_pos h2, if_pos h2]; rfl
  rw [if_neg h2] at he hq ⊢
  rw [if_neg h2]
  by_cases h3 : 30 < numR (s.drop 2)
  · rw [if_pos h3, if_pos h3]; rfl
  rw [if_neg h3] at he hq ⊢
  rw [if_neg h3]
  by_cases h4 : s.length ≤ 2 + numR (s.drop 2)
  · rw [if_pos h4] at he; simp at he
  rw [if_neg h4] at he hq ⊢
  rw [if_neg h4]
  have hq2 : ¬ (64 ≤ at0 s (2 + numR (s.drop 2)) ∧ at0 s (2 + numR (s.drop 2)) ≤ 126) := by
    intro ⟨x, y⟩
    simp [x, y] at hq
  rw [if_neg hq2]
  simp
  omega
theorem step_escQ (h : at0 s 0 = 27) (hq : (escR s).2 = true) : ∃ n : Nat, (escR s).1 = ((n + 3 : Nat) : Int) ∧ n = numR (s.drop 2) ∧ n ≤ 30 ∧ 3 + n ≤ s.length ∧ 64 ≤ at0 s (2 + n) ∧ at0 s (2 + n) ≤ 126 ∧ fdStep s = some ([.oby ((s.drop 2).take n) (at0 s (2 + n))], n + 3) := by
  unfold escR at hq ⊢
  by_cases h1 : s.length ≤ 1
  · rw [if_pos h1] at hq; simp at hq
  rw [if_neg h1] at hq ⊢
  by_cases h2 : at0 s 1 ≠ 91
  · rw [if_pos h2] at hq; simp at hq
  rw [if_neg h2] at hq ⊢
  by_cases h3 : 30 < numR (s.drop 2)
  · rw [if_pos h3] at hq; simp at hq
  rw [if_neg h3] at hq ⊢
  by_cases h4 : s.length ≤ 2 + numR (s.drop 2)
  · rw [if_pos h4] at hq; simp at hq
  rw [if_neg h4] at hq ⊢
  have hq2 : 64 ≤ at0 s (2 + numR (s.drop 2)) ∧ at0 s (2 + numR (s.drop 2)) ≤ 126 := by simpa using hq
  refine ⟨numR (s.drop 2), by simp, rfl, by omega, by omega, hq2.1, hq2.2, ?_⟩
  unfold fdStep
  rw [if_neg (by omega), if_pos h, if_neg h1, if_neg h2, if_neg h3, if_neg h4, if_pos hq2]
theorem numR_each : ∀ (s : List Int), ∀ b ∈ s.take (numR s), 48 ≤ b ∧ b ≤ 63
  | [] => by simp
  | x :: xs => by
    intro b hb
    rw [numR] at hb
    by_cases hx : 48 ≤ x ∧ x ≤ 63
    · simp [hx] at hb
      rcases hb with rfl | hb
      · exact hx
      · exact numR_each xs b hb
    · have : ¬ (48 ≤ x ∧ x ≤ 63) := hx
      simp [this] at hb
theorem escR_pos (s : List Int) : 0 ≤ (escR s).1 := by
  unfold escR
  (repeat' split) <;> simp
  omega
theorem numS_top (bs : List Int) (hb : ∀ b ∈ bs, b ≤ 63) : numS bs ≤ 100000 := by
  unfold numS
  split
  · omega
  · rename_i h
    have hl : bs.length ≤ 4 := by omega
    match bs, hl, hb with
    | [], _, _ => simp
    | [a], _, hb => have := hb a (by simp); simp; omega
    | [a, b], _, hb => have h1 := hb a (by simp); have h2 := hb b (by simp); simp; omega
    | [a, b, c], _, hb => have h1 := hb a (by simp); have h2 := hb b (by simp); have h3 := hb c (by simp); simp; omega
    | [a, b, c, e], _, hb => have h1 := hb a (by simp); have h2 := hb b (by simp); have h3 := hb c (by simp); have h4 := hb e (by simp); simp; omega
end
end Go.Proofs.YtinfdhbnljnifaaGreatDoor

namespace Go.Proofs.YtinfdhbnljnifaaGreatDoor
open Go.RowKit
theorem OwnO.notRow {w : World} {base base' : Nat} {T T' : TypeId} {v u : Value} {n m size : Nat} {A : Nat → Value} {xs : List Value} (h : OwnO w base T v n A) (hy : w.ownsRow base' T' size u m xs) (hT : T ≠ T') {g : Nat} (hg : u.ownBlock = some g) : v.ownBlock ≠ some g := by
  intro e
  obtain ⟨g', k', cap', cur, e1, _, hg', _⟩ := h
  rw [e1] at e
  have e2 : g' = g := by simpa [Value.ownBlock] using e
  subst e2
  rcases hy.2 with ⟨e3, _⟩ | ⟨g2, _, cur2, e3, _, hg2, _⟩
  · rw [e3] at hg; simp [Value.ownBlock] at hg
  · rw [e3] at hg
    have e4 : g2 = g' := by simpa [Value.ownBlock] using hg
    subst e4
    rw [hg'] at hg2
    simp at hg2
    exact hT hg2.2
def OwnGF (w : World) (base : Nat) (v : Value) (rv : Nat → Value) (R : Nat) (C : Nat → Nat) (A B : Nat → Nat → Value) : Prop :=
  OwnO w base 81 v R rv ∧ (∀ i, i < R → Own2 w base 83 (rv i) (C i) (A i) (B i)) ∧ (∀ i j g, i < j → j < R → (rv i).ownBlock = some g → (rv j).ownBlock ≠ some g)
section
variable {w w' : World} {base : Nat} {v : Value} {rv : Nat → Value} {R : Nat} {C : Nat → Nat} {A B : Nat → Nat → Value}
theorem OwnGF.ext (h : OwnGF w base v rv R C A B) (he : Ext w w') : OwnGF w' base v rv R C A B := ⟨h.1.ext he, fun i hi => (h.2.1 i hi).ext he, h.2.2⟩
theorem OwnGF.reads (h : OwnGF w base v rv R C A B) : GridAt w v R C A B := ⟨rv, h.1.reads, fun i hi => (h.2.1 i hi).reads⟩
theorem OwnGF.foot (h : OwnGF w base v rv R C A B) {g : Nat} (hg : GFoot v rv R g) : base ≤ g ∧ g < w.heap.size := by
  rcases hg with hg | ⟨i, hi, hg⟩
  · exact h.1.lt g hg
  · exact (h.2.1 i hi).lt g hg
theorem OwnGF.fr {S : Nat → Prop} (h : OwnGF w base v rv R C A B) (hf : Fr S w w') (hS : ∀ g, GFoot v rv R g → ¬ S g) : OwnGF w' base v rv R C A B :=
  ⟨h.1.fr hf (fun g hg => hS g (.inl hg)), fun i hi => (h.2.1 i hi).fr hf (fun g hg => hS g (.inr ⟨i, hi, hg⟩)), h.2.2⟩
theorem OwnGF.apart (h : OwnGF w base v rv R C A B) {i g : Nat} (hi : i < R) (hg : (rv i).ownBlock = some g) : v.ownBlock ≠ some g := by
  obtain ⟨zs, h2, _⟩ := h.2.1 i hi
  exact h.1.notRow h2 (by decide) hg
theorem OwnGF.row {A' B' : Nat → Value} {j : Nat} (h : OwnGF w base v rv R C A B) (hj : j < R) (ho : Own2 w' base 83 (rv j) (C j) A' B') (hf : Fr (fun g => (rv j).ownBlock = some g) w w') :
    OwnGF w' base v rv R C (fun i => if i = j then A' else A i) (fun i => if i = j then B' else B i) := by
  refine ⟨h.1.fr hf (fun g hg e => h.apart hj e hg), fun i hi => ?_, h.2.2⟩
  dsimp only
  by_cases e : i = j
  · subst e; rw [if_pos rfl, if_pos rfl]; exact ho
  · rw [if_neg e, if_neg e]
    refine (h.2.1 i hi).fr hf (fun g hg e2 => ?_)
    rcases Nat.lt_or_gt_of_ne e with h5 | h5
    · exact h.2.2 i j g h5 hj hg e2
    · exact h.2.2 j i g h5 hi e2 hg
theorem OwnGF.congr {A' B' : Nat → Nat → Value} (h : OwnGF w base v rv R C A B) (e : ∀ i, i < R → A i = A' i ∧ B i = B' i) : OwnGF w base v rv R C A' B' :=
  ⟨h.1, fun i hi => by rw [← (e i hi).1, ← (e i hi).2]; exact h.2.1 i hi, h.2.2⟩
end
def OwnFS (w : World) (base : Nat) (d : SD) (gv : Value) (rv : Nat → Value) (hv bv : Value) : Prop :=
  OwnGF w base gv rv d.R d.C (fun i j => .string (d.tx i j)) (fun i j => .bool (d.hf i j)) ∧ w.ownsRow base 5 1 hv d.hold.length (d.hold.map (Value.int .u8)) ∧ Own1 w base 9 bv d.nb (fun j => .string (d.bk j))
section
variable {w w' : World} {base : Nat} {d : SD} {gv : Value} {rv : Nat → Value} {hv bv : Value}
theorem OwnF.toS (h : OwnF w base d gv rv hv bv) : OwnFS w base d gv rv hv bv := ⟨⟨h.grid, h.row, h.apart⟩, h.hold, h.back⟩
theorem OwnFS.ext (h : OwnFS w base d gv rv hv bv) (he : Ext w w') : OwnFS w' base d gv rv hv bv := ⟨h.1.ext he, he.owns h.2.1, h.2.2.ext he⟩
theorem OwnFS.reads (h : OwnFS w base d gv rv hv bv) : ScrAt w d gv hv bv := ⟨h.1.reads, ints_of_owns h.2.1, h.2.2.reads⟩
theorem OwnFS.foot (h : OwnFS w base d gv rv hv bv) {g : Nat} (hg : SFoot d gv rv hv bv g) : base ≤ g ∧ g < w.heap.size := by
  rcases hg with hg | hg | hg
  · exact h.1.foot hg
  · exact h.2.1.lt g hg
  · exact h.2.2.lt g hg
theorem OwnFS.fr {S : Nat → Prop} (h : OwnFS w base d gv rv hv bv) (hf : Fr S w w') (hS : ∀ g, SFoot d gv rv hv bv g → ¬ S g) : OwnFS w' base d gv rv hv bv :=
  ⟨h.1.fr hf (fun g hg => hS g (.inl hg)), hf.owns h.2.1 (fun g hg => hS g (.inr (.inl hg))), h.2.2.fr hf (fun g hg => hS g (.inr (.inr hg)))⟩
theorem OwnFS.kinds (h : OwnFS w base d gv rv hv bv) :
    (∀ g, GFoot gv rv d.R g → hv.ownBlock ≠ some g ∧ bv.ownBlock ≠ some g) ∧ (∀ g, hv.ownBlock = some g → bv.ownBlock ≠ some g) := by
  obtain ⟨⟨a1, a2, _⟩, a3, ⟨zs, a4, _⟩⟩ := h
  refine ⟨fun g hg => ?_, fun g hg => owns_apart a3 a4 (by decide) hg⟩
  rcases hg with hg | ⟨i, hi, hg⟩
  · exact ⟨fun e => a1.notRow a3 (by decide) e hg, fun e => a1.notRow a4 (by decide) e hg⟩
  · obtain ⟨xs, b1, _⟩ := a2 i hi
    exact ⟨owns_apart b1 a3 (by decide) hg, owns_apart b1 a4 (by decide) hg⟩
end
end Go.Proofs.YtinfdhbnljnifaaGreatDoor
