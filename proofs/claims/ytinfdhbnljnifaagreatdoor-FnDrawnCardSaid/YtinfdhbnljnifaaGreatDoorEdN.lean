import Derived.Test.YtinfdhbnljnifaaGreatDoorFdE
import Derived.Deep.RegionHeld3
import Derived.Test.YtinfdhbnljnifaaGreatDoorWhole
import Derived.Laws.CopyRow
import Derived.Test.YtinfdhbnljnifaaGreatDoorTextOf
import Derived.Test.YtinfdhbnljnifaaGreatDoorEdW2
import Derived.Test.YtinfdhbnljnifaaGreatDoorKys
import Derived.Test.YtinfdhbnljnifaaGreatDoorKmU
namespace Go.Proofs.YtinfdhbnljnifaaGreatDoor
open Go.RowKit
def zbZ (d : SD) (gv : Value) (rv : Nat → Value) (bv : Value) (g : Nat) : Prop := gv.ownBlock = some g ∨ (∃ i, i < d.R ∧ (rv i).ownBlock = some g) ∨ bv.ownBlock = some g
structure zab (w : World) (F base : Nat) (X : Nat → Prop) (d : SD) (gv : Value) (rv : Nat → Value) (hv bv : Value) : Prop where
 box : w.heap[F]? = some (.cells #[.int .i64 d.cols, .int .i64 d.rows, gv, .int .i64 d.row, .int .i64 d.col, .bool d.late, hv, bv] 26 (0, 0))
 grid : zbg w base 81 gv d.R rv
 row : ∀ i, i < d.R → zaG w base 83 (rv i) (d.C i) (fun j => .string (d.tx i j)) (fun j => .bool (d.hf i j))
 apart : ∀ i j g, i < j → j < d.R → (rv i).ownBlock = some g → (rv j).ownBlock ≠ some g
 back : za4 w base 9 bv d.nb (fun j => .string (d.bk j))
 below : F < w.heap.size ∧ ¬ zbZ d gv rv bv F
 top : base ≤ w.heap.size
 kept : ∀ k, X k → k < w.heap.size ∧ ¬ zbZ d gv rv bv k
abbrev FrW (F base : Nat) (X : Nat → Prop) (w w' : World) : Prop := Fr (fun k => k = F ∨ (base ≤ k ∧ ¬ X k)) w w'
section
variable {w w' : World} {F base : Nat} {X : Nat → Prop} {d : SD} {gv : Value} {rv : Nat → Value} {hv bv : Value}
theorem zab.foot (h : zab w F base X d gv rv hv bv) {g : Nat} (hg : zbZ d gv rv bv g) : base ≤ g ∧ g < w.heap.size := by
 rcases hg with hg | ⟨i, hi, hg⟩ | hg
 ·exact h.grid.lt g hg
 ·exact (h.row i hi).lt g hg
 ·exact h.back.lt g hg
theorem zab.ext (h : zab w F base X d gv rv hv bv) (he : Ext w w') : zab w' F base X d gv rv hv bv :=
 ⟨he.kept h.box, h.grid.ext he, fun i hi => (h.row i hi).ext he, h.apart, h.back.ext he, ⟨Nat.lt_of_lt_of_le h.below.1 he.size, h.below.2⟩, Nat.le_trans h.top he.size, fun k hk => ⟨Nat.lt_of_lt_of_le (h.kept k hk).1 he.size, (h.kept k hk).2⟩⟩
theorem zab.fr {S : Nat → Prop} (h : zab w F base X d gv rv hv bv) (hf : Fr S w w') (hF : ¬ S F) (hS : ∀ g, zbZ d gv rv bv g → ¬ S g) : zab w' F base X d gv rv hv bv :=
 ⟨hf.kept h.box hF, h.grid.fr hf (fun g hg => hS g (.inl hg)), fun i hi => (h.row i hi).fr hf (fun g hg => hS g (.inr (.inl ⟨i, hi, hg⟩))), h.apart, h.back.fr hf (fun g hg => hS g (.inr (.inr hg))), ⟨Nat.lt_of_lt_of_le h.below.1 hf.size, h.below.2⟩, Nat.le_trans h.top hf.size, fun k hk => ⟨Nat.lt_of_lt_of_le (h.kept k hk).1 hf.size, (h.kept k hk).2⟩⟩
theorem zab.head (h : zab w F base X d gv rv hv bv) (hf : Fr (fun k => k = F) w w') (r c : Int) (l : Bool)
  (hb : w'.heap[F]? = some (.cells #[.int .i64 d.cols, .int .i64 d.rows, gv, .int .i64 r, .int .i64 c, .bool l, hv, bv] 26 (0, 0))) : zab w' F base X { d with row := r, col := c, late := l } gv rv hv bv := by
 have ne : ∀ g, zbZ d gv rv bv g → ¬ g = F := fun g hg e => h.below.2 (e ▸ hg)
 exact ⟨hb, h.grid.fr hf (fun g hg => ne g (.inl hg)), fun i hi => (h.row i hi).fr hf (fun g hg => ne g (.inr (.inl ⟨i, hi, hg⟩))), h.apart, h.back.fr hf (fun g hg => ne g (.inr (.inr hg))), ⟨Nat.lt_of_lt_of_le h.below.1 hf.size, h.below.2⟩, Nat.le_trans h.top hf.size, fun k hk => ⟨Nat.lt_of_lt_of_le (h.kept k hk).1 hf.size, (h.kept k hk).2⟩⟩
theorem zab.rowAt (h : zab w F base X d gv rv hv bv) (i : Nat) (hi : i < d.R) (hf : Fr (fun k => (rv i).ownBlock = some k) w w') (tx : Nat → ByteArray) (hh : Nat → Bool) (hr : zaG w' base 83 (rv i) (d.C i) (fun j => .string (tx j)) (fun j => .bool (hh j))) :
  zab w' F base X { d with tx := fun p q => if p = i then tx q else d.tx p q, hf := fun p q => if p = i then hh q else d.hf p q } gv rv hv bv := by
 have hO := (h.row i hi)
 refine ⟨hf.kept h.box (fun e => h.below.2 (.inr (.inl ⟨i, hi, e⟩))), h.grid.fr hf (fun g hg e => ?_), fun p hp => ?_, h.apart, h.back.fr hf (fun g hg e => ?_), ⟨Nat.lt_of_lt_of_le h.below.1 hf.size, h.below.2⟩, Nat.le_trans h.top hf.size, fun k hk => ⟨Nat.lt_of_lt_of_le (h.kept k hk).1 hf.size, (h.kept k hk).2⟩⟩
 ·obtain ⟨g', k', cap', cur, e1, _, hg', _⟩ := h.grid
  obtain ⟨ys, hy, _⟩ := hO
  rw [e1] at hg
  have e2 : g' = g := by simpa [Value.ownBlock] using hg
  subst e2
  rcases hy.2 with ⟨e3, _⟩ | ⟨g2, _, cur2, e3, _, hg2, _⟩
  ·rw [e3] at e; simp [Value.ownBlock] at e
  ·rw [e3] at e
   have e4 : g2 = g' := by simpa [Value.ownBlock] using e
   subst e4
   rw [hg'] at hg2
   simp at hg2
 ·by_cases e : p = i
  ·subst e
   show zaG w' base _ (rv p) (d.C p) (fun j => .string (if p = p then tx j else d.tx p j)) (fun j => .bool (if p = p then hh j else d.hf p j))
   simpa using hr
  ·have := (h.row p hp).fr hf (fun g hg e2 => by
    rcases Nat.lt_or_gt_of_ne e with l | l
    ·exact h.apart p i g l hi hg e2
    ·exact h.apart i p g l hp e2 hg)
   show zaG w' base _ (rv p) (d.C p) (fun j => .string (if p = i then tx j else d.tx p j)) (fun j => .bool (if p = i then hh j else d.hf p j))
   simpa [e] using this
 ·obtain ⟨ys, hy, _⟩ := hO
  obtain ⟨zs, hz, _⟩ := h.back
  exact zaw hz hy (by decide) hg e
end
section
variable {F base : Nat} {X : Nat → Prop} {d : SD} {gv : Value} {rv : Nat → Value} {hv bv : Value}
set_option maxHeartbeats 1000000 in
theorem zeS (w : World) (h : zab w F base X d gv rv hv bv) :
  Calls Tryz.prog 102 #[.pointer (some ⟨F, 0, none⟩)] w fun e w' => e = .returned (.tuple #[]) ∧ zab w' F base X { d with col := 0, late := false } gv rv hv bv ∧ Fr (fun k => k = F) w w' := by
 have c4 := zg h.box 4 _ rfl
 have c5 := zg h.box 5 _ rfl
 have f4 : w.frozen? ⟨F, 4, none⟩ = false := Lib.frozen_of_heap h.box 4
 have f5 : w.frozen? ⟨F, 5, none⟩ = false := Lib.frozen_of_heap h.box 5
 have H := zh h
 clear h
 go_enter Tryz.func102, Tryz.ntmps102
 go_wp2
 go_end0
 have fs : Fr (fun k => k = F) w ((w.setCell ⟨F, 4, none⟩ (.int .i64 0)).setCell ⟨F, 5, none⟩ (.bool false)) := Fr.setCell (S := fun k => k = F) (Fr.setCell (S := fun k => k = F) (Fr.refl _ w) (a := ⟨F, 4, none⟩) rfl _) (a := ⟨F, 5, none⟩) rfl _
 exact ⟨rfl, (zu H).head fs d.row 0 false (zj (zj (zu H).box rfl) rfl), fs⟩
theorem zab.cellOf {w : World} (h : zab w F base X d gv rv hv bv) (i j : Nat) (hi : i < d.R) (hj : j < d.C i) : ∃ g cap, rv i = .slice (some ⟨g, 0, none⟩) (d.C i) cap ∧ w.cell? ⟨g, j * 2, none⟩ = some (.string (d.tx i j)) ∧ w.cell? ⟨g, j * 2 + 1, none⟩ = some (.bool (d.hf i j)) ∧ w.frozen? ⟨g, j * 2, none⟩ = false ∧ w.frozen? ⟨g, j * 2 + 1, none⟩ = false := by
 have hr := h.row i hi
 rcases hr.form with ⟨_, e⟩ | ⟨g, cap, e⟩
 ·omega
 ·have hr2 := hr
  rw [e] at hr2
  obtain ⟨⟨q1, q2⟩, q3, q4⟩ := hr2.cell hj
  exact ⟨g, cap, e, q1, q3, q2, q4⟩
set_option maxRecDepth 10000 in
set_option maxHeartbeats 2000000 in
theorem zao (w : World) (h : zab w F base X d gv rv hv bv) (i j g cap : Nat) (hi : i < d.R) (hj : j < d.C i) (hg : rv i = .slice (some ⟨g, 0, none⟩) (d.C i) cap) :
  Calls Tryz.prog 163 #[.pointer (some ⟨F, 0, none⟩), .int .i64 (i : Int), .int .i64 (j : Int)] w fun e w' => e = .returned (.pointer (some ⟨g, j * 2, none⟩)) ∧ Ext w w' := by
 obtain ⟨gb, gk, gcap, cur, rfl, hb, hgb, hk, hn, hm, hA⟩ := h.grid
 have c2 := zg h.box 2 _ rfl
 have r0 := zg hgb (gk + i) _ (hA i hi)
 rw [hg] at r0
 have b1 : (i : Int) < (d.R : Int) := by omega
 have b2 : (j : Int) < (d.C i : Int) := by omega
 have b3 : ¬ (d.R : Int) ≤ (i : Int) := by omega
 have b4 : ¬ (d.C i : Int) ≤ (j : Int) := by omega
 have b5 : ¬ (i : Int) < 0 := by omega
 have b6 : ¬ (j : Int) < 0 := by omega
 clear hA hgb h hg
 have hcon : ∀ W, Ext w W → Calls Tryz.prog 119 #[.slice (some ⟨gb, gk, none⟩) d.R gcap, .int .i64 (i : Int), .int .i64 (j : Int)] W fun e w' => e = .returned (.pointer (some ⟨g, j * 2, none⟩)) ∧ Ext W w' := fun W hW => by
  have r1 := hW.cell r0
  have r2 : ∀ o, (W.alloc o).cell? ⟨gb, gk + i, none⟩ = some (.slice (some ⟨g, 0, none⟩) (d.C i) cap) := fun o => ((Ext.refl W).alloc o).cell r1
  go_enter Tryz.func119, Tryz.ntmps119
  go_wp2
  exact bodyPost_ret (v := .pointer (some ⟨g, j * 2, none⟩)) (by simp [results, Tryz.results119, go_sem]) rfl ⟨rfl, by repeat' first | exact Ext.refl _ | refine Ext.alloc ?_ _ | refine Ext.drew ?_⟩
 have HC := zh hcon
 clear hcon r0
 go_enter Tryz.func163, Tryz.ntmps163
 go_wp2_with fail
 refine ((zu HC) _ (by repeat' first | exact Ext.refl _ | refine Ext.alloc ?_ _ | refine Ext.drew ?_)).mono ?_
 rintro e w1 ⟨rfl, E1⟩
 go_wp2
 exact bodyPost_ret (v := .pointer (some ⟨g, j * 2, none⟩)) (by simp [results, Tryz.results163, go_sem]) rfl ⟨rfl, by first | exact E1 | exact ((Ext.refl _).alloc _).trans E1⟩
end
def SD.blk (d : SD) (i q : Nat) : SD := { d with tx := fun p r => if p = i ∧ r = q then bz else d.tx p r, hf := fun p r => if p = i ∧ r = q then false else d.hf p r }
theorem clr_blk (d : SD) (i j : Nat) (h0 : d.hf i j = true → 0 < j) (d1 d2 : SD) (e1 : d1 = if d.hf i j = true then d.blk i (j - 1) else d) (e2 : d2 = if j + 1 < d.C i ∧ d.hf i (j + 1) = true then d1.blk i (j + 1) else d1) : d2.blk i j = d.clr i j (j + 1) := by
 have key : ∀ r, za6 d i j (j + 1) r = true ↔ r = j ∨ (r + 1 = j ∧ d.hf i j = true) ∨ (r = j + 1 ∧ j + 1 < d.C i ∧ d.hf i (j + 1) = true) := fun r => by
  rw [za0]
  constructor
  ·rintro (h | h | h)
   ·exact .inl (by omega)
   ·exact .inr (.inl h)
   ·exact .inr (.inr h)
  ·rintro (h | h | h)
   ·exact .inl (by omega)
   ·exact .inr (.inl h)
   ·exact .inr (.inr h)
 have ht : (d2.blk i j).tx = (d.clr i j (j + 1)).tx := by
  funext p r
  show (if p = i ∧ r = j then bz else d2.tx p r) = if p = i ∧ za6 d i j (j + 1) r = true then bz else d.tx p r
  by_cases hp : p = i
  ·subst hp
   by_cases hr : r = j
   ·rw [if_pos ⟨rfl, hr⟩, if_pos ⟨rfl, (key r).2 (.inl hr)⟩]
   ·rw [if_neg (fun h => hr h.2)]
    by_cases c2 : j + 1 < d.C p ∧ d.hf p (j + 1) = true
    ·rw [if_pos c2] at e2
     by_cases hr2 : r = j + 1
     ·rw [if_pos ⟨rfl, (key r).2 (.inr (.inr ⟨hr2, c2⟩))⟩, e2]
      show (if p = p ∧ r = j + 1 then bz else d1.tx p r) = bz
      rw [if_pos ⟨rfl, hr2⟩]
     ·rw [e2]
      show (if p = p ∧ r = j + 1 then bz else d1.tx p r) = _
      rw [if_neg (fun h => hr2 h.2), e1]
      by_cases c1 : d.hf p j = true
      ·rw [if_pos c1]
       show (if p = p ∧ r = j - 1 then bz else d.tx p r) = _
       by_cases hr3 : r = j - 1
       ·rw [if_pos ⟨rfl, hr3⟩, if_pos ⟨rfl, (key r).2 (.inr (.inl ⟨by have := h0 c1; omega, c1⟩))⟩]
       ·rw [if_neg (fun h => hr3 h.2), if_neg]
        rintro ⟨_, h⟩
        rcases (key r).1 h with h | h | h <;> omega
      ·rw [if_neg c1, if_neg]
       rintro ⟨_, h⟩
       rcases (key r).1 h with h | h | h
       ·exact hr h
       ·exact c1 h.2
       ·exact hr2 h.1
    ·rw [if_neg c2] at e2
     rw [e2, e1]
     by_cases c1 : d.hf p j = true
     ·rw [if_pos c1]
      show (if p = p ∧ r = j - 1 then bz else d.tx p r) = _
      by_cases hr3 : r = j - 1
      ·rw [if_pos ⟨rfl, hr3⟩, if_pos ⟨rfl, (key r).2 (.inr (.inl ⟨by have := h0 c1; omega, c1⟩))⟩]
      ·rw [if_neg (fun h => hr3 h.2), if_neg]
       rintro ⟨_, h⟩
       rcases (key r).1 h with h | h | h
       ·exact hr h
       ·omega
       ·exact c2 h.2
     ·rw [if_neg c1, if_neg]
      rintro ⟨_, h⟩
      rcases (key r).1 h with h | h | h
      ·exact hr h
      ·exact c1 h.2
      ·exact c2 h.2
  ·rw [if_neg (fun h => hp h.1), if_neg (fun h => hp h.1), e2, e1]
   split <;> split <;> simp [SD.blk, hp]
 have hh : (d2.blk i j).hf = (d.clr i j (j + 1)).hf := by
  funext p r
  show (if p = i ∧ r = j then false else d2.hf p r) = if p = i ∧ za6 d i j (j + 1) r = true then false else d.hf p r
  by_cases hp : p = i
  ·subst hp
   by_cases hr : r = j
   ·rw [if_pos ⟨rfl, hr⟩, if_pos ⟨rfl, (key r).2 (.inl hr)⟩]
   ·rw [if_neg (fun h => hr h.2)]
    by_cases c2 : j + 1 < d.C p ∧ d.hf p (j + 1) = true
    ·rw [if_pos c2] at e2
     by_cases hr2 : r = j + 1
     ·rw [if_pos ⟨rfl, (key r).2 (.inr (.inr ⟨hr2, c2⟩))⟩, e2]
      show (if p = p ∧ r = j + 1 then false else d1.hf p r) = false
      rw [if_pos ⟨rfl, hr2⟩]
     ·rw [e2]
      show (if p = p ∧ r = j + 1 then false else d1.hf p r) = _
      rw [if_neg (fun h => hr2 h.2), e1]
      by_cases c1 : d.hf p j = true
      ·rw [if_pos c1]
       show (if p = p ∧ r = j - 1 then false else d.hf p r) = _
       by_cases hr3 : r = j - 1
       ·rw [if_pos ⟨rfl, hr3⟩, if_pos ⟨rfl, (key r).2 (.inr (.inl ⟨by have := h0 c1; omega, c1⟩))⟩]
       ·rw [if_neg (fun h => hr3 h.2), if_neg]
        rintro ⟨_, h⟩
        rcases (key r).1 h with h | h | h <;> omega
      ·rw [if_neg c1, if_neg]
       rintro ⟨_, h⟩
       rcases (key r).1 h with h | h | h
       ·exact hr h
       ·exact c1 h.2
       ·exact hr2 h.1
    ·rw [if_neg c2] at e2
     rw [e2, e1]
     by_cases c1 : d.hf p j = true
     ·rw [if_pos c1]
      show (if p = p ∧ r = j - 1 then false else d.hf p r) = _
      by_cases hr3 : r = j - 1
      ·rw [if_pos ⟨rfl, hr3⟩, if_pos ⟨rfl, (key r).2 (.inr (.inl ⟨by have := h0 c1; omega, c1⟩))⟩]
      ·rw [if_neg (fun h => hr3 h.2), if_neg]
       rintro ⟨_, h⟩
       rcases (key r).1 h with h | h | h
       ·exact hr h
       ·omega
       ·exact c2 h.2
     ·rw [if_neg c1, if_neg]
      rintro ⟨_, h⟩
      rcases (key r).1 h with h | h | h
      ·exact hr h
      ·exact c1 h.2
      ·exact c2 h.2
  ·rw [if_neg (fun h => hp h.1), if_neg (fun h => hp h.1), e2, e1]
   split <;> split <;> simp [SD.blk, hp]
 have hrest : d2.blk i j = { d with tx := (d2.blk i j).tx, hf := (d2.blk i j).hf } := by
  rw [e2, e1]
  split <;> split <;> rfl
 rw [hrest, ht, hh]
 rfl
section
variable {F base : Nat} {X : Nat → Prop} {d : SD} {gv : Value} {rv : Nat → Value} {hv bv : Value}
theorem zab.blk1 {w : World} (h : zab w F base X d gv rv hv bv) (i q g cap : Nat) (hi : i < d.R) (hq : q < d.C i) (hg : rv i = .slice (some ⟨g, 0, none⟩) (d.C i) cap) :
  zab ((w.setCell ⟨g, q * 2, none⟩ (.string bz)).setCell ⟨g, q * 2 + 1, none⟩ (.bool false)) F base X (d.blk i q) gv rv hv bv ∧ Fr (fun k => (rv i).ownBlock = some k) w ((w.setCell ⟨g, q * 2, none⟩ (.string bz)).setCell ⟨g, q * 2 + 1, none⟩ (.bool false)) := by
 have hb : (rv i).ownBlock = some g := by rw [hg]; rfl
 have fs : Fr (fun k => (rv i).ownBlock = some k) w ((w.setCell ⟨g, q * 2, none⟩ (.string bz)).setCell ⟨g, q * 2 + 1, none⟩ (.bool false)) :=
  Fr.setCell (S := fun k => (rv i).ownBlock = some k) (Fr.setCell (S := fun k => (rv i).ownBlock = some k) (Fr.refl _ w) (a := ⟨g, q * 2, none⟩) hb _) (a := ⟨g, q * 2 + 1, none⟩) hb _
 have hr := h.row i hi
 rw [hg] at hr
 have hs := hr.set hq (.string bz) (.bool false)
 rw [← hg] at hs
 have := h.rowAt i hi fs (fun r => if r = q then bz else d.tx i r) (fun r => if r = q then false else d.hf i r) (hs.congr (fun r _ => by
  constructor
  ·by_cases e : r = q <;> simp [e]
  ·by_cases e : r = q <;> simp [e]))
 refine ⟨?_, fs⟩
 have ed : d.blk i q = { d with tx := fun p r => if p = i then (if r = q then bz else d.tx i r) else d.tx p r, hf := fun p r => if p = i then (if r = q then false else d.hf i r) else d.hf p r } := by
  unfold SD.blk
  have a1 : (fun p r => if p = i ∧ r = q then bz else d.tx p r) = fun p r => if p = i then (if r = q then bz else d.tx i r) else d.tx p r := by
   funext p r
   by_cases hp : p = i
   ·subst hp
    by_cases e : r = q <;> simp [e]
   ·simp [hp]
  have a2 : (fun p r => if p = i ∧ r = q then false else d.hf p r) = fun p r => if p = i then (if r = q then false else d.hf i r) else d.hf p r := by
   funext p r
   by_cases hp : p = i
   ·subst hp
    by_cases e : r = q <;> simp [e]
   ·simp [hp]
  rw [a1, a2]
 rw [ed]
 exact this
end
section
variable {F base : Nat} {X : Nat → Prop} {d : SD} {gv : Value} {rv : Nat → Value} {hv bv : Value}
set_option maxRecDepth 10000 in
set_option maxHeartbeats 8000000 in
theorem zfw (w : World) (h : zab w F base X d gv rv hv bv) (i j : Nat) (hi : i < d.R) (hj : j < d.C i) (hC : (d.C i : Int) = d.cols) (h0 : d.hf i j = true → 0 < j) (hC2 : d.C i ≤ 200) :
  Calls Tryz.prog 164 #[.pointer (some ⟨F, 0, none⟩), .int .i64 (i : Int), .int .i64 (j : Int)] w fun e w' => e = .returned (.tuple #[]) ∧ zab w' F base X (d.clr i j (j + 1)) gv rv hv bv ∧ Fr (fun k => (rv i).ownBlock = some k) w w' := by
 obtain ⟨g, cap, hg, _, _, _, _⟩ := h.cellOf i j hi hj
 have HG := zh hg
 have Hw := zh h
 have HFw : Hid (Fr (fun k => (rv i).ownBlock = some k) w w) := zh (Fr.refl _ _)
 have wm : IntKind.i64.wrap ((j : Int) - 1) = (j : Int) - 1 := by rw [IntKind.wrap_i64] <;> omega
 have wp : IntKind.i64.wrap ((j : Int) + 1) = (j : Int) + 1 := by rw [IntKind.wrap_i64] <;> omega
 have cl := clr_blk d i j h0 _ _ rfl rfl
 have HCl := zh cl
 clear hg h cl
 cases hh : d.hf i j with
 | true =>
  have hj0 := h0 hh
  by_cases hc2 : j + 1 < d.C i
  ·have b1 : (j : Int) + 1 < d.cols := by omega
   cases h2 : d.hf i (j + 1) with
   | true =>
    go_enter Tryz.func164, Tryz.ntmps164
    have HCn := zh (zao w (zu Hw) i j g cap hi (by show j < d.C i; omega) (zu HG))
    go_wp2_with fail
    refine (zu HCn).mono ?_
    rintro e w1 ⟨rfl, Ew1⟩
    have Hw1 := zh ((zu Hw).ext Ew1)
    have HFw1 := zh (Fr.tr (zu HFw) (Fr.of_ext Ew1))
    clear HCn Ew1
    obtain ⟨g', cap', e', k1, k2, k3, k4⟩ := (zu Hw1).cellOf i j hi (by show j < d.C i; omega)
    rw [zu HG] at e'
    simp only [Value.slice.injEq, Option.some.injEq, Addr.mk.injEq, and_true] at e'
    rw [← e'.1] at k1 k2 k3 k4
    clear e'
    rw [hh] at k2
    have HCn := zh (zao w1 (zu Hw1) i (j - 1) g cap hi (by show (j - 1) < d.C i; omega) (zu HG))
    rw [show ((j - 1 : Nat) : Int) = (j : Int) - 1 by omega] at HCn
    go_wp2_with fail
    refine (zu HCn).mono ?_
    rintro e w2 ⟨rfl, Ew2⟩
    have Hw2 := zh ((zu Hw1).ext Ew2)
    have HFw2 := zh (Fr.tr (zu HFw1) (Fr.of_ext Ew2))
    clear HCn Ew2
    clear k1 k2 k3 k4
    obtain ⟨g', cap', e', s1, s2, s3, s4⟩ := (zu Hw2).cellOf i (j - 1) hi (by show (j - 1) < d.C i; omega)
    rw [zu HG] at e'
    simp only [Value.slice.injEq, Option.some.injEq, Addr.mk.injEq, and_true] at e'
    rw [← e'.1] at s1 s2 s3 s4
    clear e'
    obtain ⟨w3, hw3⟩ : ∃ V, V = (World.setCell w2 ⟨g, (j - 1) * 2, none⟩ (.string { data := #[] })).setCell ⟨g, (j - 1) * 2 + 1, none⟩ (.bool false) := ⟨_, rfl⟩
    have sb := (zu Hw2).blk1 i (j - 1) g cap hi (by show (j - 1) < d.C i; omega) (zu HG)
    rw [show (World.setCell w2 ⟨g, (j - 1) * 2, none⟩ (.string bz)).setCell ⟨g, (j - 1) * 2 + 1, none⟩ (.bool false) = w3 from hw3.symm] at sb
    have Hw3 := zh sb.1
    have HFw3 := zh (Fr.tr (zu HFw2) sb.2)
    have HVw3 := zh hw3
    clear sb hw3
    have c0 : World.cell? w3 ⟨F, 0, none⟩ = some (.int .i64 d.cols) := zg (zu Hw3).box 0 _ rfl
    rw [zu HVw3] at c0
    have HCn := zh (zao w3 (zu Hw3) i (j + 1) g cap hi (by show (j + 1) < d.C i; omega) (zu HG))
    rw [show ((j + 1 : Nat) : Int) = (j : Int) + 1 by omega] at HCn
    go_wp2_with fail
    rw [← zu HVw3]
    refine (zu HCn).mono ?_
    rintro e w4 ⟨rfl, Ew4⟩
    have Hw4 := zh ((zu Hw3).ext Ew4)
    have HFw4 := zh (Fr.tr (zu HFw3) (Fr.of_ext Ew4))
    clear HCn Ew4
    clear s1 s2 s3 s4
    obtain ⟨g', cap', e', m1, m2, m3, m4⟩ := (zu Hw4).cellOf i (j + 1) hi (by show (j + 1) < d.C i; omega)
    rw [zu HG] at e'
    simp only [Value.slice.injEq, Option.some.injEq, Addr.mk.injEq, and_true] at e'
    rw [← e'.1] at m1 m2 m3 m4
    clear e'
    rw [show (d.blk i (j - 1)).hf i (j + 1) = d.hf i (j + 1) from if_neg (by omega)] at m2
    rw [h2] at m2
    have HCn := zh (zao w4 (zu Hw4) i (j + 1) g cap hi (by show (j + 1) < d.C i; omega) (zu HG))
    rw [show ((j + 1 : Nat) : Int) = (j : Int) + 1 by omega] at HCn
    go_wp2_with fail
    refine (zu HCn).mono ?_
    rintro e w5 ⟨rfl, Ew5⟩
    have Hw5 := zh ((zu Hw4).ext Ew5)
    have HFw5 := zh (Fr.tr (zu HFw4) (Fr.of_ext Ew5))
    clear HCn Ew5
    clear m1 m2 m3 m4
    obtain ⟨g', cap', e', s1, s2, s3, s4⟩ := (zu Hw5).cellOf i (j + 1) hi (by show (j + 1) < d.C i; omega)
    rw [zu HG] at e'
    simp only [Value.slice.injEq, Option.some.injEq, Addr.mk.injEq, and_true] at e'
    rw [← e'.1] at s1 s2 s3 s4
    clear e'
    obtain ⟨w6, hw6⟩ : ∃ V, V = (World.setCell w5 ⟨g, (j + 1) * 2, none⟩ (.string { data := #[] })).setCell ⟨g, (j + 1) * 2 + 1, none⟩ (.bool false) := ⟨_, rfl⟩
    have sb := (zu Hw5).blk1 i (j + 1) g cap hi (by show (j + 1) < d.C i; omega) (zu HG)
    rw [show (World.setCell w5 ⟨g, (j + 1) * 2, none⟩ (.string bz)).setCell ⟨g, (j + 1) * 2 + 1, none⟩ (.bool false) = w6 from hw6.symm] at sb
    have Hw6 := zh sb.1
    have HFw6 := zh (Fr.tr (zu HFw5) sb.2)
    have HVw6 := zh hw6
    clear sb hw6
    have HCn := zh (zao w6 (zu Hw6) i j g cap hi (by show j < d.C i; omega) (zu HG))
    go_wp2_with fail
    rw [← zu HVw6]
    refine (zu HCn).mono ?_
    rintro e w7 ⟨rfl, Ew7⟩
    have Hw7 := zh ((zu Hw6).ext Ew7)
    have HFw7 := zh (Fr.tr (zu HFw6) (Fr.of_ext Ew7))
    clear HCn Ew7
    try clear s1 s2 s3 s4
    obtain ⟨g', cap', e', s1, s2, s3, s4⟩ := (zu Hw7).cellOf i j hi (by show j < d.C i; omega)
    rw [zu HG] at e'
    simp only [Value.slice.injEq, Option.some.injEq, Addr.mk.injEq, and_true] at e'
    rw [← e'.1] at s1 s2 s3 s4
    clear e'
    obtain ⟨w8, hw8⟩ : ∃ V, V = (World.setCell w7 ⟨g, j * 2, none⟩ (.string { data := #[] })).setCell ⟨g, j * 2 + 1, none⟩ (.bool false) := ⟨_, rfl⟩
    have sb := (zu Hw7).blk1 i j g cap hi (by show j < d.C i; omega) (zu HG)
    rw [show (World.setCell w7 ⟨g, j * 2, none⟩ (.string bz)).setCell ⟨g, j * 2 + 1, none⟩ (.bool false) = w8 from hw8.symm] at sb
    have Hw8 := zh sb.1
    have HFw8 := zh (Fr.tr (zu HFw7) sb.2)
    have HVw8 := zh hw8
    clear sb hw8
    go_wp2
    go_end0
    rw [← zu HVw8]
    have hcl := zu HCl
    rw [if_pos hh] at hcl
    rw [if_pos ⟨hc2, h2⟩] at hcl
    have hfin := zu Hw8
    rw [hcl] at hfin
    exact ⟨rfl, hfin, zu HFw8⟩
   | false =>
    go_enter Tryz.func164, Tryz.ntmps164
    have HCn := zh (zao w (zu Hw) i j g cap hi (by show j < d.C i; omega) (zu HG))
    go_wp2_with fail
    refine (zu HCn).mono ?_
    rintro e w1 ⟨rfl, Ew1⟩
    have Hw1 := zh ((zu Hw).ext Ew1)
    have HFw1 := zh (Fr.tr (zu HFw) (Fr.of_ext Ew1))
    clear HCn Ew1
    obtain ⟨g', cap', e', k1, k2, k3, k4⟩ := (zu Hw1).cellOf i j hi (by show j < d.C i; omega)
    rw [zu HG] at e'
    simp only [Value.slice.injEq, Option.some.injEq, Addr.mk.injEq, and_true] at e'
    rw [← e'.1] at k1 k2 k3 k4
    clear e'
    rw [hh] at k2
    have HCn := zh (zao w1 (zu Hw1) i (j - 1) g cap hi (by show (j - 1) < d.C i; omega) (zu HG))
    rw [show ((j - 1 : Nat) : Int) = (j : Int) - 1 by omega] at HCn
    go_wp2_with fail
    refine (zu HCn).mono ?_
    rintro e w2 ⟨rfl, Ew2⟩
    have Hw2 := zh ((zu Hw1).ext Ew2)
    have HFw2 := zh (Fr.tr (zu HFw1) (Fr.of_ext Ew2))
    clear HCn Ew2
    clear k1 k2 k3 k4
    obtain ⟨g', cap', e', s1, s2, s3, s4⟩ := (zu Hw2).cellOf i (j - 1) hi (by show (j - 1) < d.C i; omega)
    rw [zu HG] at e'
    simp only [Value.slice.injEq, Option.some.injEq, Addr.mk.injEq, and_true] at e'
    rw [← e'.1] at s1 s2 s3 s4
    clear e'
    obtain ⟨w3, hw3⟩ : ∃ V, V = (World.setCell w2 ⟨g, (j - 1) * 2, none⟩ (.string { data := #[] })).setCell ⟨g, (j - 1) * 2 + 1, none⟩ (.bool false) := ⟨_, rfl⟩
    have sb := (zu Hw2).blk1 i (j - 1) g cap hi (by show (j - 1) < d.C i; omega) (zu HG)
    rw [show (World.setCell w2 ⟨g, (j - 1) * 2, none⟩ (.string bz)).setCell ⟨g, (j - 1) * 2 + 1, none⟩ (.bool false) = w3 from hw3.symm] at sb
    have Hw3 := zh sb.1
    have HFw3 := zh (Fr.tr (zu HFw2) sb.2)
    have HVw3 := zh hw3
    clear sb hw3
    have c0 : World.cell? w3 ⟨F, 0, none⟩ = some (.int .i64 d.cols) := zg (zu Hw3).box 0 _ rfl
    rw [zu HVw3] at c0
    have HCn := zh (zao w3 (zu Hw3) i (j + 1) g cap hi (by show (j + 1) < d.C i; omega) (zu HG))
    rw [show ((j + 1 : Nat) : Int) = (j : Int) + 1 by omega] at HCn
    go_wp2_with fail
    rw [← zu HVw3]
    refine (zu HCn).mono ?_
    rintro e w4 ⟨rfl, Ew4⟩
    have Hw4 := zh ((zu Hw3).ext Ew4)
    have HFw4 := zh (Fr.tr (zu HFw3) (Fr.of_ext Ew4))
    clear HCn Ew4
    clear s1 s2 s3 s4
    obtain ⟨g', cap', e', m1, m2, m3, m4⟩ := (zu Hw4).cellOf i (j + 1) hi (by show (j + 1) < d.C i; omega)
    rw [zu HG] at e'
    simp only [Value.slice.injEq, Option.some.injEq, Addr.mk.injEq, and_true] at e'
    rw [← e'.1] at m1 m2 m3 m4
    clear e'
    rw [show (d.blk i (j - 1)).hf i (j + 1) = d.hf i (j + 1) from if_neg (by omega)] at m2
    rw [h2] at m2
    have HCn := zh (zao w4 (zu Hw4) i j g cap hi (by show j < d.C i; omega) (zu HG))
    go_wp2_with fail
    refine (zu HCn).mono ?_
    rintro e w7 ⟨rfl, Ew7⟩
    have Hw7 := zh ((zu Hw4).ext Ew7)
    have HFw7 := zh (Fr.tr (zu HFw4) (Fr.of_ext Ew7))
    clear HCn Ew7
    try clear s1 s2 s3 s4
    obtain ⟨g', cap', e', s1, s2, s3, s4⟩ := (zu Hw7).cellOf i j hi (by show j < d.C i; omega)
    rw [zu HG] at e'
    simp only [Value.slice.injEq, Option.some.injEq, Addr.mk.injEq, and_true] at e'
    rw [← e'.1] at s1 s2 s3 s4
    clear e'
    obtain ⟨w8, hw8⟩ : ∃ V, V = (World.setCell w7 ⟨g, j * 2, none⟩ (.string { data := #[] })).setCell ⟨g, j * 2 + 1, none⟩ (.bool false) := ⟨_, rfl⟩
    have sb := (zu Hw7).blk1 i j g cap hi (by show j < d.C i; omega) (zu HG)
    rw [show (World.setCell w7 ⟨g, j * 2, none⟩ (.string bz)).setCell ⟨g, j * 2 + 1, none⟩ (.bool false) = w8 from hw8.symm] at sb
    have Hw8 := zh sb.1
    have HFw8 := zh (Fr.tr (zu HFw7) sb.2)
    have HVw8 := zh hw8
    clear sb hw8
    go_wp2
    go_end0
    rw [← zu HVw8]
    have hcl := zu HCl
    rw [if_pos hh] at hcl
    rw [if_neg (c := j + 1 < d.C i ∧ d.hf i (j + 1) = true) (fun x => by have x2 := x.2; rw [h2] at x2; cases x2)] at hcl
    have hfin := zu Hw8
    rw [hcl] at hfin
    exact ⟨rfl, hfin, zu HFw8⟩
  ·have b1 : ¬ (j : Int) + 1 < d.cols := by omega
   go_enter Tryz.func164, Tryz.ntmps164
   have HCn := zh (zao w (zu Hw) i j g cap hi (by show j < d.C i; omega) (zu HG))
   go_wp2_with fail
   refine (zu HCn).mono ?_
   rintro e w1 ⟨rfl, Ew1⟩
   have Hw1 := zh ((zu Hw).ext Ew1)
   have HFw1 := zh (Fr.tr (zu HFw) (Fr.of_ext Ew1))
   clear HCn Ew1
   obtain ⟨g', cap', e', k1, k2, k3, k4⟩ := (zu Hw1).cellOf i j hi (by show j < d.C i; omega)
   rw [zu HG] at e'
   simp only [Value.slice.injEq, Option.some.injEq, Addr.mk.injEq, and_true] at e'
   rw [← e'.1] at k1 k2 k3 k4
   clear e'
   rw [hh] at k2
   have HCn := zh (zao w1 (zu Hw1) i (j - 1) g cap hi (by show (j - 1) < d.C i; omega) (zu HG))
   rw [show ((j - 1 : Nat) : Int) = (j : Int) - 1 by omega] at HCn
   go_wp2_with fail
   refine (zu HCn).mono ?_
   rintro e w2 ⟨rfl, Ew2⟩
   have Hw2 := zh ((zu Hw1).ext Ew2)
   have HFw2 := zh (Fr.tr (zu HFw1) (Fr.of_ext Ew2))
   clear HCn Ew2
   clear k1 k2 k3 k4
   obtain ⟨g', cap', e', s1, s2, s3, s4⟩ := (zu Hw2).cellOf i (j - 1) hi (by show (j - 1) < d.C i; omega)
   rw [zu HG] at e'
   simp only [Value.slice.injEq, Option.some.injEq, Addr.mk.injEq, and_true] at e'
   rw [← e'.1] at s1 s2 s3 s4
   clear e'
   obtain ⟨w3, hw3⟩ : ∃ V, V = (World.setCell w2 ⟨g, (j - 1) * 2, none⟩ (.string { data := #[] })).setCell ⟨g, (j - 1) * 2 + 1, none⟩ (.bool false) := ⟨_, rfl⟩
   have sb := (zu Hw2).blk1 i (j - 1) g cap hi (by show (j - 1) < d.C i; omega) (zu HG)
   rw [show (World.setCell w2 ⟨g, (j - 1) * 2, none⟩ (.string bz)).setCell ⟨g, (j - 1) * 2 + 1, none⟩ (.bool false) = w3 from hw3.symm] at sb
   have Hw3 := zh sb.1
   have HFw3 := zh (Fr.tr (zu HFw2) sb.2)
   have HVw3 := zh hw3
   clear sb hw3
   have c0 : World.cell? w3 ⟨F, 0, none⟩ = some (.int .i64 d.cols) := zg (zu Hw3).box 0 _ rfl
   rw [zu HVw3] at c0
   have HCn := zh (zao w3 (zu Hw3) i j g cap hi (by show j < d.C i; omega) (zu HG))
   go_wp2_with fail
   rw [← zu HVw3]
   refine (zu HCn).mono ?_
   rintro e w7 ⟨rfl, Ew7⟩
   have Hw7 := zh ((zu Hw3).ext Ew7)
   have HFw7 := zh (Fr.tr (zu HFw3) (Fr.of_ext Ew7))
   clear HCn Ew7
   try clear s1 s2 s3 s4
   obtain ⟨g', cap', e', s1, s2, s3, s4⟩ := (zu Hw7).cellOf i j hi (by show j < d.C i; omega)
   rw [zu HG] at e'
   simp only [Value.slice.injEq, Option.some.injEq, Addr.mk.injEq, and_true] at e'
   rw [← e'.1] at s1 s2 s3 s4
   clear e'
   obtain ⟨w8, hw8⟩ : ∃ V, V = (World.setCell w7 ⟨g, j * 2, none⟩ (.string { data := #[] })).setCell ⟨g, j * 2 + 1, none⟩ (.bool false) := ⟨_, rfl⟩
   have sb := (zu Hw7).blk1 i j g cap hi (by show j < d.C i; omega) (zu HG)
   rw [show (World.setCell w7 ⟨g, j * 2, none⟩ (.string bz)).setCell ⟨g, j * 2 + 1, none⟩ (.bool false) = w8 from hw8.symm] at sb
   have Hw8 := zh sb.1
   have HFw8 := zh (Fr.tr (zu HFw7) sb.2)
   have HVw8 := zh hw8
   clear sb hw8
   go_wp2
   go_end0
   rw [← zu HVw8]
   have hcl := zu HCl
   rw [if_pos hh] at hcl
   rw [if_neg (c := j + 1 < d.C i ∧ d.hf i (j + 1) = true) (fun x => hc2 x.1)] at hcl
   have hfin := zu Hw8
   rw [hcl] at hfin
   exact ⟨rfl, hfin, zu HFw8⟩
 | false =>
  by_cases hc2 : j + 1 < d.C i
  ·have b1 : (j : Int) + 1 < d.cols := by omega
   cases h2 : d.hf i (j + 1) with
   | true =>
    go_enter Tryz.func164, Tryz.ntmps164
    have HCn := zh (zao w (zu Hw) i j g cap hi (by show j < d.C i; omega) (zu HG))
    go_wp2_with fail
    refine (zu HCn).mono ?_
    rintro e w1 ⟨rfl, Ew1⟩
    have Hw1 := zh ((zu Hw).ext Ew1)
    have HFw1 := zh (Fr.tr (zu HFw) (Fr.of_ext Ew1))
    clear HCn Ew1
    obtain ⟨g', cap', e', k1, k2, k3, k4⟩ := (zu Hw1).cellOf i j hi (by show j < d.C i; omega)
    rw [zu HG] at e'
    simp only [Value.slice.injEq, Option.some.injEq, Addr.mk.injEq, and_true] at e'
    rw [← e'.1] at k1 k2 k3 k4
    clear e'
    rw [hh] at k2
    have c0 : World.cell? w1 ⟨F, 0, none⟩ = some (.int .i64 d.cols) := zg (zu Hw1).box 0 _ rfl
    have HCn := zh (zao w1 (zu Hw1) i (j + 1) g cap hi (by show (j + 1) < d.C i; omega) (zu HG))
    rw [show ((j + 1 : Nat) : Int) = (j : Int) + 1 by omega] at HCn
    go_wp2_with fail
    refine (zu HCn).mono ?_
    rintro e w4 ⟨rfl, Ew4⟩
    have Hw4 := zh ((zu Hw1).ext Ew4)
    have HFw4 := zh (Fr.tr (zu HFw1) (Fr.of_ext Ew4))
    clear HCn Ew4
    clear k1 k2 k3 k4
    obtain ⟨g', cap', e', m1, m2, m3, m4⟩ := (zu Hw4).cellOf i (j + 1) hi (by show (j + 1) < d.C i; omega)
    rw [zu HG] at e'
    simp only [Value.slice.injEq, Option.some.injEq, Addr.mk.injEq, and_true] at e'
    rw [← e'.1] at m1 m2 m3 m4
    clear e'
    rw [h2] at m2
    have HCn := zh (zao w4 (zu Hw4) i (j + 1) g cap hi (by show (j + 1) < d.C i; omega) (zu HG))
    rw [show ((j + 1 : Nat) : Int) = (j : Int) + 1 by omega] at HCn
    go_wp2_with fail
    refine (zu HCn).mono ?_
    rintro e w5 ⟨rfl, Ew5⟩
    have Hw5 := zh ((zu Hw4).ext Ew5)
    have HFw5 := zh (Fr.tr (zu HFw4) (Fr.of_ext Ew5))
    clear HCn Ew5
    clear m1 m2 m3 m4
    obtain ⟨g', cap', e', s1, s2, s3, s4⟩ := (zu Hw5).cellOf i (j + 1) hi (by show (j + 1) < d.C i; omega)
    rw [zu HG] at e'
    simp only [Value.slice.injEq, Option.some.injEq, Addr.mk.injEq, and_true] at e'
    rw [← e'.1] at s1 s2 s3 s4
    clear e'
    obtain ⟨w6, hw6⟩ : ∃ V, V = (World.setCell w5 ⟨g, (j + 1) * 2, none⟩ (.string { data := #[] })).setCell ⟨g, (j + 1) * 2 + 1, none⟩ (.bool false) := ⟨_, rfl⟩
    have sb := (zu Hw5).blk1 i (j + 1) g cap hi (by show (j + 1) < d.C i; omega) (zu HG)
    rw [show (World.setCell w5 ⟨g, (j + 1) * 2, none⟩ (.string bz)).setCell ⟨g, (j + 1) * 2 + 1, none⟩ (.bool false) = w6 from hw6.symm] at sb
    have Hw6 := zh sb.1
    have HFw6 := zh (Fr.tr (zu HFw5) sb.2)
    have HVw6 := zh hw6
    clear sb hw6
    have HCn := zh (zao w6 (zu Hw6) i j g cap hi (by show j < d.C i; omega) (zu HG))
    go_wp2_with fail
    rw [← zu HVw6]
    refine (zu HCn).mono ?_
    rintro e w7 ⟨rfl, Ew7⟩
    have Hw7 := zh ((zu Hw6).ext Ew7)
    have HFw7 := zh (Fr.tr (zu HFw6) (Fr.of_ext Ew7))
    clear HCn Ew7
    try clear s1 s2 s3 s4
    obtain ⟨g', cap', e', s1, s2, s3, s4⟩ := (zu Hw7).cellOf i j hi (by show j < d.C i; omega)
    rw [zu HG] at e'
    simp only [Value.slice.injEq, Option.some.injEq, Addr.mk.injEq, and_true] at e'
    rw [← e'.1] at s1 s2 s3 s4
    clear e'
    obtain ⟨w8, hw8⟩ : ∃ V, V = (World.setCell w7 ⟨g, j * 2, none⟩ (.string { data := #[] })).setCell ⟨g, j * 2 + 1, none⟩ (.bool false) := ⟨_, rfl⟩
    have sb := (zu Hw7).blk1 i j g cap hi (by show j < d.C i; omega) (zu HG)
    rw [show (World.setCell w7 ⟨g, j * 2, none⟩ (.string bz)).setCell ⟨g, j * 2 + 1, none⟩ (.bool false) = w8 from hw8.symm] at sb
    have Hw8 := zh sb.1
    have HFw8 := zh (Fr.tr (zu HFw7) sb.2)
    have HVw8 := zh hw8
    clear sb hw8
    go_wp2
    go_end0
    rw [← zu HVw8]
    have hcl := zu HCl
    rw [if_neg (c := d.hf i j = true) (by rw [hh]; simp)] at hcl
    rw [if_pos ⟨hc2, h2⟩] at hcl
    have hfin := zu Hw8
    rw [hcl] at hfin
    exact ⟨rfl, hfin, zu HFw8⟩
   | false =>
    go_enter Tryz.func164, Tryz.ntmps164
    have HCn := zh (zao w (zu Hw) i j g cap hi (by show j < d.C i; omega) (zu HG))
    go_wp2_with fail
    refine (zu HCn).mono ?_
    rintro e w1 ⟨rfl, Ew1⟩
    have Hw1 := zh ((zu Hw).ext Ew1)
    have HFw1 := zh (Fr.tr (zu HFw) (Fr.of_ext Ew1))
    clear HCn Ew1
    obtain ⟨g', cap', e', k1, k2, k3, k4⟩ := (zu Hw1).cellOf i j hi (by show j < d.C i; omega)
    rw [zu HG] at e'
    simp only [Value.slice.injEq, Option.some.injEq, Addr.mk.injEq, and_true] at e'
    rw [← e'.1] at k1 k2 k3 k4
    clear e'
    rw [hh] at k2
    have c0 : World.cell? w1 ⟨F, 0, none⟩ = some (.int .i64 d.cols) := zg (zu Hw1).box 0 _ rfl
    have HCn := zh (zao w1 (zu Hw1) i (j + 1) g cap hi (by show (j + 1) < d.C i; omega) (zu HG))
    rw [show ((j + 1 : Nat) : Int) = (j : Int) + 1 by omega] at HCn
    go_wp2_with fail
    refine (zu HCn).mono ?_
    rintro e w4 ⟨rfl, Ew4⟩
    have Hw4 := zh ((zu Hw1).ext Ew4)
    have HFw4 := zh (Fr.tr (zu HFw1) (Fr.of_ext Ew4))
    clear HCn Ew4
    clear k1 k2 k3 k4
    obtain ⟨g', cap', e', m1, m2, m3, m4⟩ := (zu Hw4).cellOf i (j + 1) hi (by show (j + 1) < d.C i; omega)
    rw [zu HG] at e'
    simp only [Value.slice.injEq, Option.some.injEq, Addr.mk.injEq, and_true] at e'
    rw [← e'.1] at m1 m2 m3 m4
    clear e'
    rw [h2] at m2
    have HCn := zh (zao w4 (zu Hw4) i j g cap hi (by show j < d.C i; omega) (zu HG))
    go_wp2_with fail
    refine (zu HCn).mono ?_
    rintro e w7 ⟨rfl, Ew7⟩
    have Hw7 := zh ((zu Hw4).ext Ew7)
    have HFw7 := zh (Fr.tr (zu HFw4) (Fr.of_ext Ew7))
    clear HCn Ew7
    try clear s1 s2 s3 s4
    obtain ⟨g', cap', e', s1, s2, s3, s4⟩ := (zu Hw7).cellOf i j hi (by show j < d.C i; omega)
    rw [zu HG] at e'
    simp only [Value.slice.injEq, Option.some.injEq, Addr.mk.injEq, and_true] at e'
    rw [← e'.1] at s1 s2 s3 s4
    clear e'
    obtain ⟨w8, hw8⟩ : ∃ V, V = (World.setCell w7 ⟨g, j * 2, none⟩ (.string { data := #[] })).setCell ⟨g, j * 2 + 1, none⟩ (.bool false) := ⟨_, rfl⟩
    have sb := (zu Hw7).blk1 i j g cap hi (by show j < d.C i; omega) (zu HG)
    rw [show (World.setCell w7 ⟨g, j * 2, none⟩ (.string bz)).setCell ⟨g, j * 2 + 1, none⟩ (.bool false) = w8 from hw8.symm] at sb
    have Hw8 := zh sb.1
    have HFw8 := zh (Fr.tr (zu HFw7) sb.2)
    have HVw8 := zh hw8
    clear sb hw8
    go_wp2
    go_end0
    rw [← zu HVw8]
    have hcl := zu HCl
    rw [if_neg (c := d.hf i j = true) (by rw [hh]; simp)] at hcl
    rw [if_neg (c := j + 1 < d.C i ∧ d.hf i (j + 1) = true) (fun x => by have x2 := x.2; rw [h2] at x2; cases x2)] at hcl
    have hfin := zu Hw8
    rw [hcl] at hfin
    exact ⟨rfl, hfin, zu HFw8⟩
  ·have b1 : ¬ (j : Int) + 1 < d.cols := by omega
   go_enter Tryz.func164, Tryz.ntmps164
   have HCn := zh (zao w (zu Hw) i j g cap hi (by show j < d.C i; omega) (zu HG))
   go_wp2_with fail
   refine (zu HCn).mono ?_
   rintro e w1 ⟨rfl, Ew1⟩
   have Hw1 := zh ((zu Hw).ext Ew1)
   have HFw1 := zh (Fr.tr (zu HFw) (Fr.of_ext Ew1))
   clear HCn Ew1
   obtain ⟨g', cap', e', k1, k2, k3, k4⟩ := (zu Hw1).cellOf i j hi (by show j < d.C i; omega)
   rw [zu HG] at e'
   simp only [Value.slice.injEq, Option.some.injEq, Addr.mk.injEq, and_true] at e'
   rw [← e'.1] at k1 k2 k3 k4
   clear e'
   rw [hh] at k2
   have c0 : World.cell? w1 ⟨F, 0, none⟩ = some (.int .i64 d.cols) := zg (zu Hw1).box 0 _ rfl
   have HCn := zh (zao w1 (zu Hw1) i j g cap hi (by show j < d.C i; omega) (zu HG))
   go_wp2_with fail
   refine (zu HCn).mono ?_
   rintro e w7 ⟨rfl, Ew7⟩
   have Hw7 := zh ((zu Hw1).ext Ew7)
   have HFw7 := zh (Fr.tr (zu HFw1) (Fr.of_ext Ew7))
   clear HCn Ew7
   try clear s1 s2 s3 s4
   obtain ⟨g', cap', e', s1, s2, s3, s4⟩ := (zu Hw7).cellOf i j hi (by show j < d.C i; omega)
   rw [zu HG] at e'
   simp only [Value.slice.injEq, Option.some.injEq, Addr.mk.injEq, and_true] at e'
   rw [← e'.1] at s1 s2 s3 s4
   clear e'
   obtain ⟨w8, hw8⟩ : ∃ V, V = (World.setCell w7 ⟨g, j * 2, none⟩ (.string { data := #[] })).setCell ⟨g, j * 2 + 1, none⟩ (.bool false) := ⟨_, rfl⟩
   have sb := (zu Hw7).blk1 i j g cap hi (by show j < d.C i; omega) (zu HG)
   rw [show (World.setCell w7 ⟨g, j * 2, none⟩ (.string bz)).setCell ⟨g, j * 2 + 1, none⟩ (.bool false) = w8 from hw8.symm] at sb
   have Hw8 := zh sb.1
   have HFw8 := zh (Fr.tr (zu HFw7) sb.2)
   have HVw8 := zh hw8
   clear sb hw8
   go_wp2
   go_end0
   rw [← zu HVw8]
   have hcl := zu HCl
   rw [if_neg (c := d.hf i j = true) (by rw [hh]; simp)] at hcl
   rw [if_neg (c := j + 1 < d.C i ∧ d.hf i (j + 1) = true) (fun x => hc2 x.1)] at hcl
   have hfin := zu Hw8
   rw [hcl] at hfin
   exact ⟨rfl, hfin, zu HFw8⟩
end
section
variable {F base : Nat} {X : Nat → Prop} {d : SD} {gv : Value} {rv : Nat → Value} {hv bv : Value}
theorem zab.texts {w : World} (h : zab w F base X d gv rv hv bv) (tx : Nat → Nat → ByteArray) (hf : Nat → Nat → Bool) (e : ∀ i j, i < d.R → j < d.C i → d.tx i j = tx i j ∧ d.hf i j = hf i j) : zab w F base X { d with tx := tx, hf := hf } gv rv hv bv :=
 ⟨h.box, h.grid, fun i hi => (h.row i hi).congr (fun j hj => by have := e i j hi hj; show Value.string (d.tx i j) = Value.string (tx i j) ∧ Value.bool (d.hf i j) = Value.bool (hf i j); rw [this.1, this.2]; exact ⟨rfl, rfl⟩), h.apart, h.back, h.below, h.top, h.kept⟩
theorem zab.rowFr {w w' : World} (h : zab w F base X d gv rv hv bv) (i : Nat) (hi : i < d.R) (hf : Fr (fun k => (rv i).ownBlock = some k) w w') : FrW F base X w w' :=
 hf.mono (fun k hk => .inr ⟨((h.row i hi).lt k hk).1, fun hx => (h.kept k hx).2 (.inr (.inl ⟨i, hi, hk⟩))⟩)
theorem zab.moved {w : World} (h : zab w F base X d gv rv hv bv) (R C r c : Int) (eR : R = zdQ r (d.rows - 1)) (eC : C = zdQ c (d.cols - 1)) : zab (((w.setCell ⟨F, 3, none⟩ (.int .i64 R)).setCell ⟨F, 4, none⟩ (.int .i64 C)).setCell ⟨F, 5, none⟩ (.bool false)) F base X (d.moveTo r c) gv rv hv bv ∧ FrW F base X w (((w.setCell ⟨F, 3, none⟩ (.int .i64 R)).setCell ⟨F, 4, none⟩ (.int .i64 C)).setCell ⟨F, 5, none⟩ (.bool false)) := by
 subst eR
 subst eC
 have fs : Fr (fun k => k = F) w (((w.setCell ⟨F, 3, none⟩ (.int .i64 (zdQ r (d.rows - 1)))).setCell ⟨F, 4, none⟩ (.int .i64 (zdQ c (d.cols - 1)))).setCell ⟨F, 5, none⟩ (.bool false)) :=
  Fr.setCell (S := fun k => k = F) (Fr.setCell (S := fun k => k = F) (Fr.setCell (S := fun k => k = F) (Fr.refl _ w) (a := ⟨F, 3, none⟩) rfl _) (a := ⟨F, 4, none⟩) rfl _) (a := ⟨F, 5, none⟩) rfl _
 exact ⟨h.head fs (zdQ r (d.rows - 1)) (zdQ c (d.cols - 1)) false (zj (zj (zj h.box rfl) rfl) rfl), Fr.mono fs (fun k hk => .inl hk)⟩
set_option maxHeartbeats 2000000 in
theorem zcK (w : World) (h : zab w F base X d gv rv hv bv) (hk : OkP d) (r c : Int) :
  Calls Tryz.prog 108 #[.pointer (some ⟨F, 0, none⟩), .int .i64 r, .int .i64 c] w fun e w' => e = .returned (.tuple #[]) ∧ zab w' F base X (d.moveTo r c) gv rv hv bv ∧ FrW F base X w w' := by
 have hs := zae hk
 have c0 := zg h.box 0 _ rfl
 have c1 := zg h.box 1 _ rfl
 have c3 := zg h.box 3 _ rfl
 have c4 := zg h.box 4 _ rfl
 have c5 := zg h.box 5 _ rfl
 have f3 : w.frozen? ⟨F, 3, none⟩ = false := Lib.frozen_of_heap h.box 3
 have f4 : w.frozen? ⟨F, 4, none⟩ = false := Lib.frozen_of_heap h.box 4
 have f5 : w.frozen? ⟨F, 5, none⟩ = false := Lib.frozen_of_heap h.box 5
 have w1 : IntKind.i64.wrap (d.rows - 1) = d.rows - 1 := by rw [IntKind.wrap_i64] <;> omega
 have w2 : IntKind.i64.wrap (d.cols - 1) = d.cols - 1 := by rw [IntKind.wrap_i64] <;> omega
 have H := zh h
 clear h hk
 go_enter Tryz.func108, Tryz.ntmps108
 go_wp2
 all_goals first
  | (exfalso; omega)
  | (go_end0; exact ⟨rfl, (zu H).moved _ _ r c (by unfold zdQ; (repeat' split) <;> omega) (by unfold zdQ; (repeat' split) <;> omega)⟩)
def SD.clrTo (d : SD) (i j k : Nat) : SD := if k = j then d else d.clr i j k
theorem zeK (d : SD) (i j k : Nat) (hj : j ≤ k) (hk : k < d.C i) : (d.clrTo i j k).clr i k (k + 1) = d.clrTo i j (k + 1) := by
 unfold SD.clrTo
 rw [if_neg (show ¬ k + 1 = j by omega)]
 by_cases e : k = j
 ·subst e; rw [if_pos rfl]
 ·rw [if_neg e]; exact zn6 d i j k (by omega) hk
theorem zcF (d : SD) (i j k : Nat) : (d.clrTo i j k).R = d.R ∧ (d.clrTo i j k).C = d.C ∧ (d.clrTo i j k).cols = d.cols := by
 unfold SD.clrTo
 split <;> exact ⟨rfl, rfl, rfl⟩
set_option maxHeartbeats 2000000 in
theorem zc5 (w : World) (h : zab w F base X d gv rv hv bv) (i j : Nat) (hi : i < d.R) (hj : j < d.C i) (hC : (d.C i : Int) = d.cols) (h0 : d.hf i j = true → 0 < j) (hC2 : d.C i ≤ 200) :
  Calls Tryz.prog 109 #[.pointer (some ⟨F, 0, none⟩), .int .i64 (i : Int), .int .i64 (j : Int)] w fun e w' => e = .returned (.tuple #[]) ∧ zab w' F base X (d.clr i j d.cols.toNat) gv rv hv bv ∧ Fr (fun k => (rv i).ownBlock = some k) w w' := by
 have H0 : Hid (zab w F base X (d.clrTo i j j) gv rv hv bv) := zh (by unfold SD.clrTo; rw [if_pos rfl]; exact h)
 clear h
 have H00 := zh h0
 clear h0
 go_enter Tryz.func109, Tryz.ntmps109
 go_wp2_with fail
 go_loopw [2] (fun v wr => ∃ k : Nat, j ≤ k ∧ k ≤ d.C i ∧ v = .int .i64 k ∧ Hid (zab wr F base X (d.clrTo i j k) gv rv hv bv) ∧ Hid (Fr (fun q => (rv i).ownBlock = some q) w wr)) (fun v _ => d.C i - (intOf v).toNat)
 case atStart => exact ⟨j, Nat.le_refl _, by omega, rfl, H0, zh (Fr.refl _ _)⟩
 case round =>
  obtain ⟨k, hk1, hk2, rfl, HK, HF⟩ := hrel
  obtain ⟨q1, q2, q3⟩ := zcF d i j k
  have c0 := zg (zu HK).box 0 _ rfl
  rw [q3] at c0
  by_cases hlt : k < d.C i
  ·have b1 : (k : Int) < d.cols := by omega
   have hcall := zfw wr (zu HK) i k (by rw [q1]; exact hi) (by rw [q2]; exact hlt) (by rw [q2, q3]; exact hC) (fun hh => by
    rcases Nat.lt_or_ge j k with l | l
    ·omega
    ·obtain rfl : k = j := by omega
     unfold SD.clrTo at hh
     rw [if_pos rfl] at hh
     exact (zu H00) hh) (by rw [q2]; exact hC2)
   rw [zeK d i j k hk1 hlt] at hcall
   have HCall := zh hcall
   clear hcall q1 q2 q3
   go_wp2_with fail
   refine (zu HCall).mono ?_
   rintro e w' ⟨rfl, hS, hF⟩
   have HS := zh hS
   have HF2 := zh (Fr.tr (zu HF) hF)
   clear hS hF HCall HK HF c0
   go_wp2
   go_roundw
   case rel => exact ⟨k + 1, by omega, by omega, by go_num, HS, HF2⟩
   case measure => simp [intOf]; omega
  ·obtain rfl : k = d.C i := by omega
   have b1 : ¬ ((d.C i : Nat) : Int) < d.cols := by omega
   go_wp2
   go_end0
   refine ⟨rfl, ?_, zu HF⟩
   have := zu HK
   unfold SD.clrTo at this
   rw [if_neg (by omega)] at this
   rw [show d.cols.toNat = d.C i by omega]
   exact this
def SD.clrUp (d : SD) (i k : Nat) : SD := { d with tx := fun p q => if i ≤ p ∧ p < k then bz else d.tx p q, hf := fun p q => if i ≤ p ∧ p < k then false else d.hf p q }
theorem zab.clrUp_next {w : World} {i k n : Nat} (h : zab w F base X ((d.clrUp i k).clr k 0 n) gv rv hv bv) (hik : i ≤ k) (hn : d.C k = n) : zab w F base X (d.clrUp i (k + 1)) gv rv hv bv := by
 refine h.texts (d.clrUp i (k + 1)).tx (d.clrUp i (k + 1)).hf (fun p q hp hq => ?_)
 have hq2 : q < d.C p := hq
 show (if p = k ∧ za6 (d.clrUp i k) k 0 n q = true then bz else if i ≤ p ∧ p < k then bz else d.tx p q) = (if i ≤ p ∧ p < k + 1 then bz else d.tx p q) ∧ (if p = k ∧ za6 (d.clrUp i k) k 0 n q = true then false else if i ≤ p ∧ p < k then false else d.hf p q) = (if i ≤ p ∧ p < k + 1 then false else d.hf p q)
 constructor
 ·by_cases e : p = k
  ·subst e
   rw [if_pos (c := p = p ∧ za6 (d.clrUp i p) p 0 n q = true) ⟨rfl, za0.2 (.inl ⟨Nat.zero_le _, by omega⟩)⟩, if_pos (c := i ≤ p ∧ p < p + 1) ⟨hik, by omega⟩]
  ·rw [if_neg (c := p = k ∧ za6 (d.clrUp i k) k 0 n q = true) (fun x => e x.1)]
   by_cases e2 : i ≤ p ∧ p < k
   ·rw [if_pos e2, if_pos ⟨e2.1, by omega⟩]
   ·rw [if_neg e2, if_neg (by omega)]
 ·by_cases e : p = k
  ·subst e
   rw [if_pos (c := p = p ∧ za6 (d.clrUp i p) p 0 n q = true) ⟨rfl, za0.2 (.inl ⟨Nat.zero_le _, by omega⟩)⟩, if_pos (c := i ≤ p ∧ p < p + 1) ⟨hik, by omega⟩]
  ·rw [if_neg (c := p = k ∧ za6 (d.clrUp i k) k 0 n q = true) (fun x => e x.1)]
   by_cases e2 : i ≤ p ∧ p < k
   ·rw [if_pos e2, if_pos ⟨e2.1, by omega⟩]
   ·rw [if_neg e2, if_neg (by omega)]
set_option maxHeartbeats 4000000 in
theorem zhg (w : World) (h : zab w F base X d gv rv hv bv) (hk : OkP d) :
  Calls Tryz.prog 110 #[.pointer (some ⟨F, 0, none⟩)] w fun e w' => e = .returned (.tuple #[]) ∧ zab w' F base X ((d.clr d.row.toNat d.col.toNat d.cols.toNat).clrRows (d.row.toNat + 1)) gv rv hv bv ∧ FrW F base X w w' := by
 have hs := zae hk
 have hr := hk.row
 have hc := hk.col
 have hR := hk.R
 obtain ⟨r, er⟩ : ∃ r : Nat, d.row = r := ⟨d.row.toNat, by omega⟩
 obtain ⟨c, ec⟩ : ∃ c : Nat, d.col = c := ⟨d.col.toNat, by omega⟩
 have c3 := zg h.box 3 _ rfl
 have c4 := zg h.box 4 _ rfl
 rw [er] at c3
 rw [ec] at c4
 rw [er, ec, Int.toNat_natCast, Int.toNat_natCast]
 have hrR : r < d.R := by omega
 have hCr := hk.C r hrR
 have hcall := fun W (hW : Ext w W) => zc5 W (h.ext hW) r c hrR (by omega) hCr (fun e => (hk.half r c hrR (by omega) e).2.1) (by omega)
 have HCall := zh hcall
 have HH := zh h
 have HK := zh hk
 clear hcall h
 go_enter Tryz.func110, Tryz.ntmps110
 go_wp2_with fail
 go_region_held3 (fun W => W.cell? ⟨F, 3, none⟩ = some (.int .i64 r) ∧ W.cell? ⟨F, 4, none⟩ = some (.int .i64 c)) (first | exact ⟨c3, c4⟩ | exact ⟨e3, e4⟩) (first
  | (go_at_call 109; refine ((zu HCall) _ (Ext.refl w).drew).mono ?_; rintro e w1 ⟨rfl, h1, f1⟩; have e3 : w1.cell? ⟨F, 3, none⟩ = some (.int .i64 r) := er ▸ zg h1.box 3 _ rfl; have e4 : w1.cell? ⟨F, 4, none⟩ = some (.int .i64 c) := ec ▸ zg h1.box 4 _ rfl; have H1 := zh h1; have F1 := zh (Fr.tr (Fr.of_ext (Ext.refl w).drew) f1); clear h1 f1))
 have HF1 := zh ((zu HH).rowFr r hrR (zu F1))
 have HS1 : Hid (zab w1 F base X ((d.clr r c d.cols.toNat).clrUp (r + 1) (r + 1)) gv rv hv bv) := zh ((zu H1).texts _ _ (fun p q _ _ => by
  show _ = (if r + 1 ≤ p ∧ p < r + 1 then bz else (d.clr r c d.cols.toNat).tx p q) ∧ _ = (if r + 1 ≤ p ∧ p < r + 1 then false else (d.clr r c d.cols.toNat).hf p q)
  rw [if_neg (by omega), if_neg (by omega)]
  exact ⟨rfl, rfl⟩))
 have wr1 : IntKind.i64.wrap ((r : Int) + 1) = (r : Int) + 1 := by rw [IntKind.wrap_i64] <;> omega
 clear H1 F1 HCall HH c3 c4
 go_wp2_with fail
 go_loopw [2] (fun v wr => ∃ k : Nat, r + 1 ≤ k ∧ k ≤ d.R ∧ v = .int .i64 k ∧ Hid (zab wr F base X ((d.clr r c d.cols.toNat).clrUp (r + 1) k) gv rv hv bv) ∧ Hid (FrW F base X w wr)) (fun v _ => d.R - (intOf v).toNat)
 case atStart => exact ⟨r + 1, Nat.le_refl _, by omega, by simp, HS1, HF1⟩
 case round =>
  clear HS1 HF1 e3
  obtain ⟨k, hk1, hk2, rfl, HSk, HFk⟩ := hrel
  have g1 := zg (zu HSk).box 1 _ rfl
  rw [show ((d.clr r c d.cols.toNat).clrUp (r + 1) k).rows = d.rows from rfl] at g1
  by_cases hlt : k < d.R
  ·have b1 : (k : Int) < d.rows := by omega
   have hCk := (zu HK).C k hlt
   have hcall := zc5 wr (zu HSk) k 0 hlt (by show 0 < d.C k; omega) hCk (fun e => by
    have e2 : (if r + 1 ≤ k ∧ k < k then false else if k = r ∧ za6 d r c d.cols.toNat 0 = true then false else d.hf k 0) = true := e
    rw [if_neg (by omega), if_neg (by omega)] at e2
    exact ((zu HK).half k 0 hlt (by omega) e2).2.1) (by show d.C k ≤ 200; omega)
   have HCall := zh hcall
   clear hcall
   go_wp2_with fail
   refine (zu HCall).mono ?_
   rintro e w2 ⟨rfl, h2, f2⟩
   have HF2 := zh (Fr.tr (zu HFk) ((zu HSk).rowFr k hlt f2))
   have HS2 := zh (h2.clrUp_next hk1 (by show d.C k = d.cols.toNat; omega))
   clear h2 f2 HCall HSk HFk g1
   go_wp2
   go_roundw
   case rel => exact ⟨k + 1, by omega, by omega, by go_num, HS2, HF2⟩
   case measure => simp [intOf]; omega
  ·obtain rfl : k = d.R := by omega
   have b1 : ¬ ((d.R : Nat) : Int) < d.rows := by omega
   go_wp2
   go_end0
   refine ⟨rfl, ?_, zu HFk⟩
   refine (zu HSk).texts _ _ (fun p q hp _ => ?_)
   have hp2 : p < d.R := hp
   show (if r + 1 ≤ p ∧ p < d.R then bz else (d.clr r c d.cols.toNat).tx p q) = (if r + 1 ≤ p then bz else (d.clr r c d.cols.toNat).tx p q) ∧ (if r + 1 ≤ p ∧ p < d.R then false else (d.clr r c d.cols.toNat).hf p q) = (if r + 1 ≤ p then false else (d.clr r c d.cols.toNat).hf p q)
   by_cases e : r + 1 ≤ p
   ·rw [if_pos ⟨e, hp2⟩, if_pos e, if_pos ⟨e, hp2⟩, if_pos e]
    exact ⟨rfl, rfl⟩
   ·rw [if_neg (fun x => e x.1), if_neg e, if_neg (fun x => e x.1), if_neg e]
    exact ⟨rfl, rfl⟩
end
abbrev OwnC (w : World) (base : Nat) (v : Value) (n : Nat) (tx : Nat → ByteArray) (hf : Nat → Bool) : Prop := zaG w base 83 v n (fun j => .string (tx j)) (fun j => .bool (hf j))
def upd {α : Type} (f : Nat → α) (q : Nat) (x : α) : Nat → α := fun r => if r = q then x else f r
theorem OwnC.blank {w : World} {base n g cap : Nat} {tx : Nat → ByteArray} {hf : Nat → Bool} (h : OwnC w base (.slice (some ⟨g, 0, none⟩) n cap) n tx hf) (q : Nat) (hq : q < n) :
  OwnC ((w.setCell ⟨g, q * 2, none⟩ (.string { data := #[] })).setCell ⟨g, q * 2 + 1, none⟩ (.bool false)) base (.slice (some ⟨g, 0, none⟩) n cap) n (upd tx q bz) (upd hf q false) ∧ Fr (fun k => k = g) w ((w.setCell ⟨g, q * 2, none⟩ (.string { data := #[] })).setCell ⟨g, q * 2 + 1, none⟩ (.bool false)) := by
 refine ⟨(zaG.set h hq (.string bz) (.bool false)).congr (fun r _ => ?_), Fr.setCell (S := fun k => k = g) (Fr.setCell (S := fun k => k = g) (Fr.refl _ w) (a := ⟨g, q * 2, none⟩) rfl _) (a := ⟨g, q * 2 + 1, none⟩) rfl _⟩
 unfold upd
 by_cases e : r = q <;> simp [e]
section
variable {base n g cap a b : Nat}
end
section
variable {P : Program}
end
def RS (P : Nat) (W : World) (v : Value) (xs : List Int) : Prop := ∀ W', Fr (fun q => q = P) W W' → zx W' .i32 v xs
theorem RS.fr {P : Nat} {W W' : World} {v : Value} {xs : List Int} (h : RS P W v xs) (f : Fr (fun q => q = P) W W') : RS P W' v xs := fun _ f2 => h _ (f.tr f2)
theorem RS.ext {P : Nat} {W W' : World} {v : Value} {xs : List Int} (h : RS P W v xs) (f : Ext W W') : RS P W' v xs := h.fr (Fr.of_ext f)
structure GapIn (P : Nat) (W : World) (cl : List Value) (rl rr : List Value) (A B : List (List Int × Int)) : Prop where
 len : cl.length = 600
 fit : A.length + B.length ≤ 300
 na : rl.length = A.length
 nb : rr.length = B.length
 la : ∀ j, j < A.length → cl[j * 2]? = some (rV rl j) ∧ cl[j * 2 + 1]? = some (.int .i64 (cW A j))
 lb : ∀ j, j < B.length → cl[(300 - B.length + j) * 2]? = some (rV rr j) ∧ cl[(300 - B.length + j) * 2 + 1]? = some (.int .i64 (cW B j))
 ra : ∀ j, j < A.length → RS P W (rV rl j) (cR A j)
 rb : ∀ j, j < B.length → RS P W (rV rr j) (cR B j)
 one : ∀ v ∈ cl, v.oneCell' = true
theorem GapIn.fr {P : Nat} {W W' : World} {cl rl rr : List Value} {A B : List (List Int × Int)} (h : GapIn P W cl rl rr A B) (f : Fr (fun q => q = P) W W') : GapIn P W' cl rl rr A B :=
 ⟨h.len, h.fit, h.na, h.nb, h.la, h.lb, fun j hj => (h.ra j hj).fr f, fun j hj => (h.rb j hj).fr f, h.one⟩
def ziB (W : World) (q : Nat) (s : ByteArray × ByteArray) : Prop := W.heap[q]? = some (.cells #[.string s.1, .string s.2] 201 (0, 0))
theorem ziB.fr {W w' : World} {q : Nat} {s : ByteArray × ByteArray} {S : Nat → Prop} (h : ziB W q s) (f : Fr S W w') (hq : ¬ S q) : ziB w' q s := f.kept h hq
def SmC (A : List (List Int × Int)) : Prop := ∀ c ∈ A, c.1.length ≤ 20000 ∧ zdv c.1
theorem SmC.app {A B : List (List Int × Int)} (h1 : SmC A) (h2 : SmC B) : SmC (A ++ B) := fun c hc => (List.mem_append.1 hc).elim (h1 c) (h2 c)
section
variable {a b c : ByteArray} {un : List (ByteArray × ByteArray)}
end
theorem Wd.same {p : Nat → Bool} {n s : Nat} (h : Wd p n s) : ∀ r, Wd p n r → r = s := fun _ hr => hr.only h
section
variable {P base : Nat} {W0 W : World} {k : ByteArray} {u : Value} {un : List (ByteArray × ByteArray)} {cl rl rr : List Value}
end
end Go.Proofs.YtinfdhbnljnifaaGreatDoor
