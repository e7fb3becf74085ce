import Derived.Test.YtinfdhbnljnifaaGreatDoorOkSpec
import Derived.Test.YtinfdhbnljnifaaGreatDoorFsP
import Derived.Test.YtinfdhbnljnifaaGreatDoorAppRune
import Derived.Test.YtinfdhbnljnifaaGreatDoorRwImpl
import Derived.Test.YtinfdhbnljnifaaGreatDoorRowO
import Derived.Deep.RegionHeld3
import Derived.Test.YtinfdhbnljnifaaGreatDoorRsz
namespace Go.Proofs.YtinfdhbnljnifaaGreatDoor
open Go.RowKit
def bz : ByteArray := { data := #[] }
theorem bz_nil : bz.toList = [] := by rw [toList_data]; rfl
def clrB (d : SD) (i a b q : Nat) : Bool := (decide (a ≤ q) && decide (q < b)) || (decide (q + 1 = a) && d.hf i a) || (decide (q = b) && decide (b < d.C i) && d.hf i b)
theorem clrB_iff {d : SD} {i a b q : Nat} : clrB d i a b q = true ↔ (a ≤ q ∧ q < b) ∨ (q + 1 = a ∧ d.hf i a = true) ∨ (q = b ∧ b < d.C i ∧ d.hf i b = true) := by
  unfold clrB
  simp [or_assoc, and_assoc]
def SD.clr (d : SD) (i a b : Nat) : SD := { d with tx := fun p q => if p = i ∧ clrB d i a b q = true then bz else d.tx p q, hf := fun p q => if p = i ∧ clrB d i a b q = true then false else d.hf p q }
def SD.setT (d : SD) (i j : Nat) (t : ByteArray) : SD := { d with tx := fun p q => if p = i ∧ q = j then t else d.tx p q }
def SD.setH (d : SD) (i j : Nat) : SD := { d with hf := fun p q => if p = i ∧ q = j then true else d.hf p q }
section
variable (tT : (Nat → ByteArray) → (Nat → Bool) → Nat → ByteArray)
def SD.down (d : SD) : SD :=
  if d.row < d.rows - 1 then { d with late := false, row := d.row + 1 }
  else { d with late := false, nb := d.nb + 1, bk := fun k => if k = d.nb then tT (d.tx 0) (d.hf 0) (d.C 0) else d.bk k, C := fun p => if p + 1 < d.R then d.C (p + 1) else d.cols.toNat, tx := fun p q => if p + 1 < d.R then d.tx (p + 1) q else bz, hf := fun p q => if p + 1 < d.R then d.hf (p + 1) q else false }
def SD.wrapL (d : SD) (w : Int) : SD := if d.late = true ∨ (w = 2 ∧ d.col = d.cols - 1) then { d.down tT with col := 0 } else d
def SD.put1 (d : SD) (t : ByteArray) (w : Int) : SD := ((d.clr d.row.toNat d.col.toNat (d.col.toNat + w.toNat)).setT d.row.toNat d.col.toNat t)
def SD.put2 (d : SD) (t : ByteArray) (w : Int) : SD := if w = 2 then (d.put1 t w).setH d.row.toNat (d.col.toNat + 1) else d.put1 t w
def SD.put3 (d : SD) (t : ByteArray) (w : Int) : SD := if d.cols ≤ d.col + w then { d.put2 t w with col := d.cols - 1, late := true } else { d.put2 t w with col := d.col + w }
def SD.put (d : SD) (t : ByteArray) (w : Int) : SD := (d.wrapL tT w).put3 t w
def SD.mkAt (d : SD) : Int := if d.late = true then d.col else d.col - 1
def SD.mkAt2 (d : SD) : Nat := if d.hf d.row.toNat d.mkAt.toNat = true then d.mkAt.toNat - 1 else d.mkAt.toNat
def SD.mark (d : SD) (t : ByteArray) : SD :=
  if d.mkAt < 0 then d
  else if (d.tx d.row.toNat d.mkAt2).toList ≠ [] ∧ (d.tx d.row.toNat d.mkAt2).size ≤ 6000 then d.setT d.row.toNat d.mkAt2 (d.tx d.row.toNat d.mkAt2 ++ t) else d
def SD.shw (d : SD) (r : Int) : SD :=
  if r = 13 then { d with col := 0, late := false }
  else if r = 10 then d.down tT
  else if r < 32 ∨ (127 ≤ r ∧ r ≤ 159) then d
  else if wid r = 0 then d.mark (toBA (encR r)) else d.put tT (toBA (encR r)) (wid r)
end
def numS (bs : List Int) : Int := if 4 < bs.length ∨ bs.any (fun b => decide (57 < b)) = true then -1 else bs.foldl (fun n b => n * 10 + (b - 48)) 0
def into (v most : Int) : Int := if v < 0 then 0 else if most < v then most else v
def SD.moveTo (d : SD) (r c : Int) : SD := { d with row := into r (d.rows - 1), col := into c (d.cols - 1), late := false }
def SD.clrRows (d : SD) (i : Nat) : SD := { d with tx := fun p q => if i ≤ p then bz else d.tx p q, hf := fun p q => if i ≤ p then false else d.hf p q }
def SD.oby (d : SD) (bs : List Int) (last : Int) : SD :=
  if numS bs < 0 then d
  else if last = 75 then (if numS bs = 0 then d.clr d.row.toNat d.col.toNat d.cols.toNat else d)
  else if last = 74 then (if numS bs = 0 then (d.clr d.row.toNat d.col.toNat d.cols.toNat).clrRows (d.row.toNat + 1) else d)
  else if last = 65 then d.moveTo (d.row - max (numS bs) 1) d.col
  else if last = 66 then d.moveTo (d.row + max (numS bs) 1) d.col
  else if last = 67 then d.moveTo d.row (d.col + max (numS bs) 1)
  else if last = 68 then d.moveTo d.row (d.col - max (numS bs) 1)
  else if last = 71 then d.moveTo d.row (max (numS bs) 1 - 1)
  else d
def SD.act (tT : (Nat → ByteArray) → (Nat → Bool) → Nat → ByteArray) (d : SD) : FAct → SD
  | .inl r => d.shw tT r
  | .inr (bs, last) => d.oby bs last
def SD.acts (tT : (Nat → ByteArray) → (Nat → Bool) → Nat → ByteArray) (d : SD) (l : List FAct) : SD := l.foldl (SD.act tT) d
theorem clr_snoc (d : SD) (i a b : Nat) (hab : a < b) (hb : b < d.C i) : (d.clr i a b).clr i b (b + 1) = d.clr i a (b + 1) := by
  have h1 : (d.clr i a b).hf i b = false := by
    show (if i = i ∧ clrB d i a b b = true then false else d.hf i b) = false
    by_cases h : d.hf i b = true
    · rw [if_pos ⟨rfl, clrB_iff.2 (.inr (.inr ⟨rfl, hb, h⟩))⟩]
    · split
      · rfl
      · simpa using h
  have h2 : (d.clr i a b).hf i (b + 1) = d.hf i (b + 1) := by
    show (if i = i ∧ clrB d i a b (b + 1) = true then false else d.hf i (b + 1)) = _
    rw [if_neg]
    rintro ⟨_, h⟩
    rcases clrB_iff.1 h with h | h | h <;> omega
  have key : ∀ q, (clrB (d.clr i a b) i b (b + 1) q = true ∨ clrB d i a b q = true) ↔ clrB d i a (b + 1) q = true := by
    intro q
    rw [clrB_iff, clrB_iff, clrB_iff, h1, h2, show (d.clr i a b).C i = d.C i from rfl]
    constructor
    · rintro ((h | h | h) | (h | h | h))
      · exact .inl (by omega)
      · exact absurd h.2 (by simp)
      · exact .inr (.inr h)
      · exact .inl (by omega)
      · exact .inr (.inl h)
      · exact .inl (by omega)
    · rintro (h | h | h)
      · by_cases e : q = b
        · exact .inl (.inl (by omega))
        · exact .inr (.inl (by omega))
      · exact .inr (.inr (.inl h))
      · exact .inl (.inr (.inr h))
  have ht : ((d.clr i a b).clr i b (b + 1)).tx = (d.clr i a (b + 1)).tx := by
    funext p q
    show (if p = i ∧ clrB (d.clr i a b) i b (b + 1) q = true then bz else if p = i ∧ clrB d i a b q = true then bz else d.tx p q) = if p = i ∧ clrB d i a (b + 1) q = true then bz else d.tx p q
    have := key q
    by_cases hp : p = i
    · by_cases h3 : clrB (d.clr i a b) i b (b + 1) q = true
      · rw [if_pos ⟨hp, h3⟩, if_pos ⟨hp, this.1 (.inl h3)⟩]
      · rw [if_neg (fun h => h3 h.2)]
        by_cases h4 : clrB d i a b q = true
        · rw [if_pos ⟨hp, h4⟩, if_pos ⟨hp, this.1 (.inr h4)⟩]
        · rw [if_neg (fun h => h4 h.2), if_neg (fun h => (this.2 h.2).elim h3 h4)]
    · rw [if_neg (fun h => hp h.1), if_neg (fun h => hp h.1), if_neg (fun h => hp h.1)]
  have hh : ((d.clr i a b).clr i b (b + 1)).hf = (d.clr i a (b + 1)).hf := by
    funext p q
    show (if p = i ∧ clrB (d.clr i a b) i b (b + 1) q = true then false else if p = i ∧ clrB d i a b q = true then false else d.hf p q) = if p = i ∧ clrB d i a (b + 1) q = true then false else d.hf p q
    have := key q
    by_cases hp : p = i
    · by_cases h3 : clrB (d.clr i a b) i b (b + 1) q = true
      · rw [if_pos ⟨hp, h3⟩, if_pos ⟨hp, this.1 (.inl h3)⟩]
      · rw [if_neg (fun h => h3 h.2)]
        by_cases h4 : clrB d i a b q = true
        · rw [if_pos ⟨hp, h4⟩, if_pos ⟨hp, this.1 (.inr h4)⟩]
        · rw [if_neg (fun h => h4 h.2), if_neg (fun h => (this.2 h.2).elim h3 h4)]
    · rw [if_neg (fun h => hp h.1), if_neg (fun h => hp h.1), if_neg (fun h => hp h.1)]
  calc (d.clr i a b).clr i b (b + 1) = { d with tx := ((d.clr i a b).clr i b (b + 1)).tx, hf := ((d.clr i a b).clr i b (b + 1)).hf } := rfl
    _ = { d with tx := (d.clr i a (b + 1)).tx, hf := (d.clr i a (b + 1)).hf } := by rw [ht, hh]
    _ = d.clr i a (b + 1) := rfl
theorem half_nil {d : SD} (h : OkP d) {i k : Nat} (hi : i < d.R) (hk : k < d.C i) (hh : d.hf i k = true) : (d.tx i k).toList = [] := (h.half i k hi hk hh).1
theorem ok_clr {d : SD} (h : OkP d) (i a b : Nat) (hi : i < d.R) (hab : a < b) (hb : b ≤ d.C i) : OkP (d.clr i a b) := by
  refine ⟨h.size, h.R, h.hold, h.C, fun p k hp hk hh => ?_, h.row, h.col, h.late⟩
  have hh2 : ¬ (p = i ∧ clrB d i a b k = true) := by
    intro e
    have : (if p = i ∧ clrB d i a b k = true then false else d.hf p k) = true := hh
    rw [if_pos e] at this
    cases this
  have hh3 : d.hf p k = true := by
    have : (if p = i ∧ clrB d i a b k = true then false else d.hf p k) = true := hh
    rwa [if_neg hh2] at this
  obtain ⟨e1, e2, e3⟩ := h.half p k hp hk hh3
  have hk1 : k < d.C p := hk
  refine ⟨?_, e2, ?_⟩
  · show (if p = i ∧ clrB d i a b k = true then bz else d.tx p k).toList = []
    rw [if_neg hh2]
    exact e1
  · show (if p = i ∧ clrB d i a b (k - 1) = true then bz else d.tx p (k - 1)).toList ≠ []
    rw [if_neg]
    · exact e3
    · rintro ⟨rfl, hc⟩
      rcases clrB_iff.1 hc with c | ⟨c, c2⟩ | ⟨c, c2, c3⟩
      · by_cases e : k = b
        · subst e
          exact hh2 ⟨rfl, clrB_iff.2 (.inr (.inr ⟨rfl, hk1, hh3⟩))⟩
        · exact hh2 ⟨rfl, clrB_iff.2 (.inl (by omega))⟩
      · exact hh2 ⟨rfl, clrB_iff.2 (.inl (by omega))⟩
      · rw [c] at e3
        exact e3 (half_nil h hp c2 c3)
end Go.Proofs.YtinfdhbnljnifaaGreatDoor

namespace Go.Proofs.YtinfdhbnljnifaaGreatDoor
open Go.RowKit
def WFoot (d : SD) (gv : Value) (rv : Nat → Value) (bv : Value) (g : Nat) : Prop := gv.ownBlock = some g ∨ (∃ i, i < d.R ∧ (rv i).ownBlock = some g) ∨ bv.ownBlock = some g
structure ScrW (w : World) (F base : Nat) (X : Nat → Prop) (d : SD) (gv : Value) (rv : Nat → Value) (hv bv : Value) : Prop where
  box : w.heap[F]? = some (.cells #[.int .i64 d.cols, .int .i64 d.rows, gv, .int .i64 d.row, .int .i64 d.col, .bool d.late, hv, bv] 26 (0, 0))
  grid : OwnO w base 81 gv d.R rv
  row : ∀ i, i < d.R → Own2 w base 83 (rv i) (d.C i) (fun j => .string (d.tx i j)) (fun j => .bool (d.hf i j))
  apart : ∀ i j g, i < j → j < d.R → (rv i).ownBlock = some g → (rv j).ownBlock ≠ some g
  back : Own1 w base 9 bv d.nb (fun j => .string (d.bk j))
  below : F < w.heap.size ∧ ¬ WFoot d gv rv bv F
  top : base ≤ w.heap.size
  kept : ∀ k, X k → k < w.heap.size ∧ ¬ WFoot d gv rv bv k
abbrev FrW (F base : Nat) (X : Nat → Prop) (w w' : World) : Prop := Fr (fun k => k = F ∨ (base ≤ k ∧ ¬ X k)) w w'
section
variable {w w' : World} {F base : Nat} {X : Nat → Prop} {d : SD} {gv : Value} {rv : Nat → Value} {hv bv : Value}
theorem ScrW.foot (h : ScrW w F base X d gv rv hv bv) {g : Nat} (hg : WFoot d gv rv bv g) : base ≤ g ∧ g < w.heap.size := by
  rcases hg with hg | ⟨i, hi, hg⟩ | hg
  · exact h.grid.lt g hg
  · exact (h.row i hi).lt g hg
  · exact h.back.lt g hg
theorem ScrW.ext (h : ScrW w F base X d gv rv hv bv) (he : Ext w w') : ScrW w' F base X d gv rv hv bv :=
  ⟨he.kept h.box, h.grid.ext he, fun i hi => (h.row i hi).ext he, h.apart, h.back.ext he, ⟨Nat.lt_of_lt_of_le h.below.1 he.size, h.below.2⟩, Nat.le_trans h.top he.size, fun k hk => ⟨Nat.lt_of_lt_of_le (h.kept k hk).1 he.size, (h.kept k hk).2⟩⟩
theorem ScrW.fr {S : Nat → Prop} (h : ScrW w F base X d gv rv hv bv) (hf : Fr S w w') (hF : ¬ S F) (hS : ∀ g, WFoot d gv rv bv g → ¬ S g) : ScrW w' F base X d gv rv hv bv :=
  ⟨hf.kept h.box hF, h.grid.fr hf (fun g hg => hS g (.inl hg)), fun i hi => (h.row i hi).fr hf (fun g hg => hS g (.inr (.inl ⟨i, hi, hg⟩))), h.apart, h.back.fr hf (fun g hg => hS g (.inr (.inr hg))), ⟨Nat.lt_of_lt_of_le h.below.1 hf.size, h.below.2⟩, Nat.le_trans h.top hf.size, fun k hk => ⟨Nat.lt_of_lt_of_le (h.kept k hk).1 hf.size, (h.kept k hk).2⟩⟩
theorem ScrW.head (h : ScrW w F base X d gv rv hv bv) (hf : Fr (fun k => k = F) w w') (r c : Int) (l : Bool)
    (hb : w'.heap[F]? = some (.cells #[.int .i64 d.cols, .int .i64 d.rows, gv, .int .i64 r, .int .i64 c, .bool l, hv, bv] 26 (0, 0))) : ScrW w' F base X { d with row := r, col := c, late := l } gv rv hv bv := by
  have ne : ∀ g, WFoot d gv rv bv g → ¬ g = F := fun g hg e => h.below.2 (e ▸ hg)
  exact ⟨hb, h.grid.fr hf (fun g hg => ne g (.inl hg)), fun i hi => (h.row i hi).fr hf (fun g hg => ne g (.inr (.inl ⟨i, hi, hg⟩))), h.apart, h.back.fr hf (fun g hg => ne g (.inr (.inr hg))), ⟨Nat.lt_of_lt_of_le h.below.1 hf.size, h.below.2⟩, Nat.le_trans h.top hf.size, fun k hk => ⟨Nat.lt_of_lt_of_le (h.kept k hk).1 hf.size, (h.kept k hk).2⟩⟩
theorem ScrW.rowAt (h : ScrW w F base X d gv rv hv bv) (i : Nat) (hi : i < d.R) (hf : Fr (fun k => (rv i).ownBlock = some k) w w') (tx : Nat → ByteArray) (hh : Nat → Bool) (hr : Own2 w' base 83 (rv i) (d.C i) (fun j => .string (tx j)) (fun j => .bool (hh j))) :
    ScrW w' F base X { d with tx := fun p q => if p = i then tx q else d.tx p q, hf := fun p q => if p = i then hh q else d.hf p q } gv rv hv bv := by
  have hO := (h.row i hi)
  refine ⟨hf.kept h.box (fun e => h.below.2 (.inr (.inl ⟨i, hi, e⟩))), h.grid.fr hf (fun g hg e => ?_), fun p hp => ?_, h.apart, h.back.fr hf (fun g hg e => ?_), ⟨Nat.lt_of_lt_of_le h.below.1 hf.size, h.below.2⟩, Nat.le_trans h.top hf.size, fun k hk => ⟨Nat.lt_of_lt_of_le (h.kept k hk).1 hf.size, (h.kept k hk).2⟩⟩
  · obtain ⟨g', k', cap', cur, e1, _, hg', _⟩ := h.grid
    obtain ⟨ys, hy, _⟩ := hO
    rw [e1] at hg
    have e2 : g' = g := by simpa [Value.ownBlock] using hg
    subst e2
    rcases hy.2 with ⟨e3, _⟩ | ⟨g2, _, cur2, e3, _, hg2, _⟩
    · rw [e3] at e; simp [Value.ownBlock] at e
    · rw [e3] at e
      have e4 : g2 = g' := by simpa [Value.ownBlock] using e
      subst e4
      rw [hg'] at hg2
      simp at hg2
  · by_cases e : p = i
    · subst e
      show Own2 w' base _ (rv p) (d.C p) (fun j => .string (if p = p then tx j else d.tx p j)) (fun j => .bool (if p = p then hh j else d.hf p j))
      simpa using hr
    · have := (h.row p hp).fr hf (fun g hg e2 => by
        rcases Nat.lt_or_gt_of_ne e with l | l
        · exact h.apart p i g l hi hg e2
        · exact h.apart i p g l hp e2 hg)
      show Own2 w' base _ (rv p) (d.C p) (fun j => .string (if p = i then tx j else d.tx p j)) (fun j => .bool (if p = i then hh j else d.hf p j))
      simpa [e] using this
  · obtain ⟨ys, hy, _⟩ := hO
    obtain ⟨zs, hz, _⟩ := h.back
    exact owns_apart hz hy (by decide) hg e
end
end Go.Proofs.YtinfdhbnljnifaaGreatDoor

namespace Go.Proofs.YtinfdhbnljnifaaGreatDoor
open Go.RowKit
section
variable {F base : Nat} {X : Nat → Prop} {d : SD} {gv : Value} {rv : Nat → Value} {hv bv : Value}
set_option maxHeartbeats 1000000 in
theorem carriageReturn_any (w : World) (h : ScrW w F base X d gv rv hv bv) :
    Calls Tryz.prog 102 #[.pointer (some ⟨F, 0, none⟩)] w fun e w' => e = .returned (.tuple #[]) ∧ ScrW w' F base X { d with col := 0, late := false } gv rv hv bv ∧ Fr (fun k => k = F) w w' := by
  have c4 := cells_of h.box 4 _ rfl
  have c5 := cells_of h.box 5 _ rfl
  have f4 : w.frozen? ⟨F, 4, none⟩ = false := Lib.frozen_of_heap h.box 4
  have f5 : w.frozen? ⟨F, 5, none⟩ = false := Lib.frozen_of_heap h.box 5
  have H := hide h
  clear h
  go_enter Tryz.func102, Tryz.ntmps102
  go_wp2
  go_end0
  have fs : Fr (fun k => k = F) w ((w.setCell ⟨F, 4, none⟩ (.int .i64 0)).setCell ⟨F, 5, none⟩ (.bool false)) := Fr.setCell (S := fun k => k = F) (Fr.setCell (S := fun k => k = F) (Fr.refl _ w) (a := ⟨F, 4, none⟩) rfl _) (a := ⟨F, 5, none⟩) rfl _
  exact ⟨rfl, (unhide H).head fs d.row 0 false (set_blk2 (set_blk2 (unhide H).box rfl) rfl), fs⟩
theorem ScrW.cellOf {w : World} (h : ScrW w F base X d gv rv hv bv) (i j : Nat) (hi : i < d.R) (hj : j < d.C i) : ∃ g cap, rv i = .slice (some ⟨g, 0, none⟩) (d.C i) cap ∧ w.cell? ⟨g, j * 2, none⟩ = some (.string (d.tx i j)) ∧ w.cell? ⟨g, j * 2 + 1, none⟩ = some (.bool (d.hf i j)) ∧ w.frozen? ⟨g, j * 2, none⟩ = false ∧ w.frozen? ⟨g, j * 2 + 1, none⟩ = false := by
  have hr := h.row i hi
  rcases hr.form with ⟨_, e⟩ | ⟨g, cap, e⟩
  · omega
  · have hr2 := hr
    rw [e] at hr2
    obtain ⟨⟨q1, q2⟩, q3, q4⟩ := hr2.cell hj
    exact ⟨g, cap, e, q1, q3, q2, q4⟩
set_option maxRecDepth 10000 in
set_option maxHeartbeats 2000000 in
theorem cell_any (w : World) (h : ScrW w F base X d gv rv hv bv) (i j g cap : Nat) (hi : i < d.R) (hj : j < d.C i) (hg : rv i = .slice (some ⟨g, 0, none⟩) (d.C i) cap) :
    Calls Tryz.prog 163 #[.pointer (some ⟨F, 0, none⟩), .int .i64 (i : Int), .int .i64 (j : Int)] w fun e w' => e = .returned (.pointer (some ⟨g, j * 2, none⟩)) ∧ Ext w w' := by
  obtain ⟨gb, gk, gcap, cur, rfl, hb, hgb, hk, hn, hm, hA⟩ := h.grid
  have c2 := cells_of h.box 2 _ rfl
  have r0 := cells_of hgb (gk + i) _ (hA i hi)
  rw [hg] at r0
  have b1 : (i : Int) < (d.R : Int) := by omega
  have b2 : (j : Int) < (d.C i : Int) := by omega
  have b3 : ¬ (d.R : Int) ≤ (i : Int) := by omega
  have b4 : ¬ (d.C i : Int) ≤ (j : Int) := by omega
  have b5 : ¬ (i : Int) < 0 := by omega
  have b6 : ¬ (j : Int) < 0 := by omega
  clear hA hgb h hg
  have hcon : ∀ W, Ext w W → Calls Tryz.prog 119 #[.slice (some ⟨gb, gk, none⟩) d.R gcap, .int .i64 (i : Int), .int .i64 (j : Int)] W fun e w' => e = .returned (.pointer (some ⟨g, j * 2, none⟩)) ∧ Ext W w' := fun W hW => by
    have r1 := hW.cell r0
    have r2 : ∀ o, (W.alloc o).cell? ⟨gb, gk + i, none⟩ = some (.slice (some ⟨g, 0, none⟩) (d.C i) cap) := fun o => ((Ext.refl W).alloc o).cell r1
    go_enter Tryz.func119, Tryz.ntmps119
    go_wp2
    exact bodyPost_ret (v := .pointer (some ⟨g, j * 2, none⟩)) (by simp [results, Tryz.results119, go_sem]) rfl ⟨rfl, by repeat' first | exact Ext.refl _ | refine Ext.alloc ?_ _ | refine Ext.drew ?_⟩
  have HC := hide hcon
  clear hcon r0
  go_enter Tryz.func163, Tryz.ntmps163
  go_wp2_with fail
  refine ((unhide HC) _ (by repeat' first | exact Ext.refl _ | refine Ext.alloc ?_ _ | refine Ext.drew ?_)).mono ?_
  rintro e w1 ⟨rfl, E1⟩
  go_wp2
  exact bodyPost_ret (v := .pointer (some ⟨g, j * 2, none⟩)) (by simp [results, Tryz.results163, go_sem]) rfl ⟨rfl, by first | exact E1 | exact ((Ext.refl _).alloc _).trans E1⟩
end
end Go.Proofs.YtinfdhbnljnifaaGreatDoor

namespace Go.Proofs.YtinfdhbnljnifaaGreatDoor
open Go.RowKit
def SD.blk (d : SD) (i q : Nat) : SD := { d with tx := fun p r => if p = i ∧ r = q then bz else d.tx p r, hf := fun p r => if p = i ∧ r = q then false else d.hf p r }
theorem clr_blk (d : SD) (i j : Nat) (h0 : d.hf i j = true → 0 < j) (d1 d2 : SD) (e1 : d1 = if d.hf i j = true then d.blk i (j - 1) else d) (e2 : d2 = if j + 1 < d.C i ∧ d.hf i (j + 1) = true then d1.blk i (j + 1) else d1) : d2.blk i j = d.clr i j (j + 1) := by
  have key : ∀ r, clrB d i j (j + 1) r = true ↔ r = j ∨ (r + 1 = j ∧ d.hf i j = true) ∨ (r = j + 1 ∧ j + 1 < d.C i ∧ d.hf i (j + 1) = true) := fun r => by
    rw [clrB_iff]
    constructor
    · rintro (h | h | h)
      · exact .inl (by omega)
      · exact .inr (.inl h)
      · exact .inr (.inr h)
    · rintro (h | h | h)
      · exact .inl (by omega)
      · exact .inr (.inl h)
      · exact .inr (.inr h)
  have ht : (d2.blk i j).tx = (d.clr i j (j + 1)).tx := by
    funext p r
    show (if p = i ∧ r = j then bz else d2.tx p r) = if p = i ∧ clrB d i j (j + 1) r = true then bz else d.tx p r
    by_cases hp : p = i
    · subst hp
      by_cases hr : r = j
      · rw [if_pos ⟨rfl, hr⟩, if_pos ⟨rfl, (key r).2 (.inl hr)⟩]
      · rw [if_neg (fun h => hr h.2)]
        by_cases c2 : j + 1 < d.C p ∧ d.hf p (j + 1) = true
        · rw [if_pos c2] at e2
          by_cases hr2 : r = j + 1
          · rw [if_pos ⟨rfl, (key r).2 (.inr (.inr ⟨hr2, c2⟩))⟩, e2]
            show (if p = p ∧ r = j + 1 then bz else d1.tx p r) = bz
            rw [if_pos ⟨rfl, hr2⟩]
          · rw [e2]
            show (if p = p ∧ r = j + 1 then bz else d1.tx p r) = _
            rw [if_neg (fun h => hr2 h.2), e1]
            by_cases c1 : d.hf p j = true
            · rw [if_pos c1]
              show (if p = p ∧ r = j - 1 then bz else d.tx p r) = _
              by_cases hr3 : r = j - 1
              · rw [if_pos ⟨rfl, hr3⟩, if_pos ⟨rfl, (key r).2 (.inr (.inl ⟨by have := h0 c1; omega, c1⟩))⟩]
              · rw [if_neg (fun h => hr3 h.2), if_neg]
                rintro ⟨_, h⟩
                rcases (key r).1 h with h | h | h <;> omega
            · rw [if_neg c1, if_neg]
              rintro ⟨_, h⟩
              rcases (key r).1 h with h | h | h
              · exact hr h
              · exact c1 h.2
              · exact hr2 h.1
        · rw [if_neg c2] at e2
          rw [e2, e1]
          by_cases c1 : d.hf p j = true
          · rw [if_pos c1]
            show (if p = p ∧ r = j - 1 then bz else d.tx p r) = _
            by_cases hr3 : r = j - 1
            · rw [if_pos ⟨rfl, hr3⟩, if_pos ⟨rfl, (key r).2 (.inr (.inl ⟨by have := h0 c1; omega, c1⟩))⟩]
            · rw [if_neg (fun h => hr3 h.2), if_neg]
              rintro ⟨_, h⟩
              rcases (key r).1 h with h | h | h
              · exact hr h
              · omega
              · exact c2 h.2
          · rw [if_neg c1, if_neg]
            rintro ⟨_, h⟩
            rcases (key r).1 h with h | h | h
            · exact hr h
            · exact c1 h.2
            · exact c2 h.2
    · rw [if_neg (fun h => hp h.1), if_neg (fun h => hp h.1), e2, e1]
      split <;> split <;> simp [SD.blk, hp]
  have hh : (d2.blk i j).hf = (d.clr i j (j + 1)).hf := by
    funext p r
    show (if p = i ∧ r = j then false else d2.hf p r) = if p = i ∧ clrB d i j (j + 1) r = true then false else d.hf p r
    by_cases hp : p = i
    · subst hp
      by_cases hr : r = j
      · rw [if_pos ⟨rfl, hr⟩, if_pos ⟨rfl, (key r).2 (.inl hr)⟩]
      · rw [if_neg (fun h => hr h.2)]
        by_cases c2 : j + 1 < d.C p ∧ d.hf p (j + 1) = true
        · rw [if_pos c2] at e2
          by_cases hr2 : r = j + 1
          · rw [if_pos ⟨rfl, (key r).2 (.inr (.inr ⟨hr2, c2⟩))⟩, e2]
            show (if p = p ∧ r = j + 1 then false else d1.hf p r) = false
            rw [if_pos ⟨rfl, hr2⟩]
          · rw [e2]
            show (if p = p ∧ r = j + 1 then false else d1.hf p r) = _
            rw [if_neg (fun h => hr2 h.2), e1]
            by_cases c1 : d.hf p j = true
            · rw [if_pos c1]
              show (if p = p ∧ r = j - 1 then false else d.hf p r) = _
              by_cases hr3 : r = j - 1
              · rw [if_pos ⟨rfl, hr3⟩, if_pos ⟨rfl, (key r).2 (.inr (.inl ⟨by have := h0 c1; omega, c1⟩))⟩]
              · rw [if_neg (fun h => hr3 h.2), if_neg]
                rintro ⟨_, h⟩
                rcases (key r).1 h with h | h | h <;> omega
            · rw [if_neg c1, if_neg]
              rintro ⟨_, h⟩
              rcases (key r).1 h with h | h | h
              · exact hr h
              · exact c1 h.2
              · exact hr2 h.1
        · rw [if_neg c2] at e2
          rw [e2, e1]
          by_cases c1 : d.hf p j = true
          · rw [if_pos c1]
            show (if p = p ∧ r = j - 1 then false else d.hf p r) = _
            by_cases hr3 : r = j - 1
            · rw [if_pos ⟨rfl, hr3⟩, if_pos ⟨rfl, (key r).2 (.inr (.inl ⟨by have := h0 c1; omega, c1⟩))⟩]
            · rw [if_neg (fun h => hr3 h.2), if_neg]
              rintro ⟨_, h⟩
              rcases (key r).1 h with h | h | h
              · exact hr h
              · omega
              · exact c2 h.2
          · rw [if_neg c1, if_neg]
            rintro ⟨_, h⟩
            rcases (key r).1 h with h | h | h
            · exact hr h
            · exact c1 h.2
            · exact c2 h.2
    · rw [if_neg (fun h => hp h.1), if_neg (fun h => hp h.1), e2, e1]
      split <;> split <;> simp [SD.blk, hp]
  have hrest : d2.blk i j = { d with tx := (d2.blk i j).tx, hf := (d2.blk i j).hf } := by
    rw [e2, e1]
    split <;> split <;> rfl
  rw [hrest, ht, hh]
  rfl
section
variable {F base : Nat} {X : Nat → Prop} {d : SD} {gv : Value} {rv : Nat → Value} {hv bv : Value}
theorem ScrW.blk1 {w : World} (h : ScrW w F base X d gv rv hv bv) (i q g cap : Nat) (hi : i < d.R) (hq : q < d.C i) (hg : rv i = .slice (some ⟨g, 0, none⟩) (d.C i) cap) :
    ScrW ((w.setCell ⟨g, q * 2, none⟩ (.string bz)).setCell ⟨g, q * 2 + 1, none⟩ (.bool false)) F base X (d.blk i q) gv rv hv bv ∧ Fr (fun k => (rv i).ownBlock = some k) w ((w.setCell ⟨g, q * 2, none⟩ (.string bz)).setCell ⟨g, q * 2 + 1, none⟩ (.bool false)) := by
  have hb : (rv i).ownBlock = some g := by rw [hg]; rfl
  have fs : Fr (fun k => (rv i).ownBlock = some k) w ((w.setCell ⟨g, q * 2, none⟩ (.string bz)).setCell ⟨g, q * 2 + 1, none⟩ (.bool false)) :=
    Fr.setCell (S := fun k => (rv i).ownBlock = some k) (Fr.setCell (S := fun k => (rv i).ownBlock = some k) (Fr.refl _ w) (a := ⟨g, q * 2, none⟩) hb _) (a := ⟨g, q * 2 + 1, none⟩) hb _
  have hr := h.row i hi
  rw [hg] at hr
  have hs := hr.set hq (.string bz) (.bool false)
  rw [← hg] at hs
  have := h.rowAt i hi fs (fun r => if r = q then bz else d.tx i r) (fun r => if r = q then false else d.hf i r) (hs.congr (fun r _ => by
    constructor
    · by_cases e : r = q <;> simp [e]
    · by_cases e : r = q <;> simp [e]))
  refine ⟨?_, fs⟩
  have ed : d.blk i q = { d with tx := fun p r => if p = i then (if r = q then bz else d.tx i r) else d.tx p r, hf := fun p r => if p = i then (if r = q then false else d.hf i r) else d.hf p r } := by
    unfold SD.blk
    have a1 : (fun p r => if p = i ∧ r = q then bz else d.tx p r) = fun p r => if p = i then (if r = q then bz else d.tx i r) else d.tx p r := by
      funext p r
      by_cases hp : p = i
      · subst hp
        by_cases e : r = q <;> simp [e]
      · simp [hp]
    have a2 : (fun p r => if p = i ∧ r = q then false else d.hf p r) = fun p r => if p = i then (if r = q then false else d.hf i r) else d.hf p r := by
      funext p r
      by_cases hp : p = i
      · subst hp
        by_cases e : r = q <;> simp [e]
      · simp [hp]
    rw [a1, a2]
  rw [ed]
  exact this
end
end Go.Proofs.YtinfdhbnljnifaaGreatDoor

namespace Go.Proofs.YtinfdhbnljnifaaGreatDoor
open Go.RowKit
abbrev OwnC (w : World) (base : Nat) (v : Value) (n : Nat) (tx : Nat → ByteArray) (hf : Nat → Bool) : Prop := Own2 w base 83 v n (fun j => .string (tx j)) (fun j => .bool (hf j))
def upd {α : Type} (f : Nat → α) (q : Nat) (x : α) : Nat → α := fun r => if r = q then x else f r
theorem OwnC.blank {w : World} {base n g cap : Nat} {tx : Nat → ByteArray} {hf : Nat → Bool} (h : OwnC w base (.slice (some ⟨g, 0, none⟩) n cap) n tx hf) (q : Nat) (hq : q < n) :
    OwnC ((w.setCell ⟨g, q * 2, none⟩ (.string { data := #[] })).setCell ⟨g, q * 2 + 1, none⟩ (.bool false)) base (.slice (some ⟨g, 0, none⟩) n cap) n (upd tx q bz) (upd hf q false) ∧ Fr (fun k => k = g) w ((w.setCell ⟨g, q * 2, none⟩ (.string { data := #[] })).setCell ⟨g, q * 2 + 1, none⟩ (.bool false)) := by
  refine ⟨(Own2.set h hq (.string bz) (.bool false)).congr (fun r _ => ?_), Fr.setCell (S := fun k => k = g) (Fr.setCell (S := fun k => k = g) (Fr.refl _ w) (a := ⟨g, q * 2, none⟩) rfl _) (a := ⟨g, q * 2 + 1, none⟩) rfl _⟩
  unfold upd
  by_cases e : r = q <;> simp [e]
def clrT (hf : Nat → Bool) (n a b q : Nat) : Bool := (decide (a ≤ q) && decide (q < b)) || (decide (q + 1 = a) && hf a) || (decide (q = b) && decide (b < n) && hf b)
theorem clrT_iff {hf : Nat → Bool} {n a b q : Nat} : clrT hf n a b q = true ↔ (a ≤ q ∧ q < b) ∨ (q + 1 = a ∧ hf a = true) ∨ (q = b ∧ b < n ∧ hf b = true) := by
  unfold clrT
  simp [or_assoc, and_assoc]
def clTx (hf : Nat → Bool) (n a b : Nat) (tx : Nat → ByteArray) : Nat → ByteArray := fun q => if clrT hf n a b q = true then bz else tx q
def clHf (hf : Nat → Bool) (n a b : Nat) : Nat → Bool := fun q => if clrT hf n a b q = true then false else hf q
def blkT {α : Type} (f : Nat → α) (x : α) (a b : Nat) : Nat → α := fun q => if a ≤ q ∧ q < b then x else f q
theorem blkT_upd {α : Type} (f : Nat → α) (x : α) (a k : Nat) (h : a ≤ k) : upd (blkT f x a k) k x = blkT f x a (k + 1) := by
  funext q
  unfold upd blkT
  by_cases e : q = k
  · rw [if_pos e, if_pos ⟨by omega, by omega⟩]
  · rw [if_neg e]
    by_cases e2 : a ≤ q ∧ q < k
    · rw [if_pos e2, if_pos ⟨by omega, by omega⟩]
    · rw [if_neg e2, if_neg (by omega)]
theorem blkT_none {α : Type} (f : Nat → α) (x : α) (a : Nat) : blkT f x a a = f := by
  funext q
  unfold blkT
  rw [if_neg (by omega)]
section
variable {base n g cap a b : Nat}
set_option maxHeartbeats 4000000 in
theorem l2Clear_any (w : World) (tx : Nat → ByteArray) (hf : Nat → Bool) (h : OwnC w base (.slice (some ⟨g, 0, none⟩) n cap) n tx hf) (hab : a < b) (hb : b ≤ n) (hn : n ≤ 200) (h0 : hf a = true → 0 < a) :
    Calls Tryz.prog 90 #[.slice (some ⟨g, 0, none⟩) n cap, .int .i64 a, .int .i64 b] w fun e w' => e = .returned (.tuple #[]) ∧ OwnC w' base (.slice (some ⟨g, 0, none⟩) n cap) n (clTx hf n a b tx) (clHf hf n a b) ∧ Fr (fun k => k = g) w w' := by
  have wm : IntKind.i64.wrap ((a : Int) - 1) = (a : Int) - 1 := by rw [IntKind.wrap_i64] <;> omega
  have b1 : (a : Int) < (n : Int) := by omega
  obtain ⟨⟨k1, k2⟩, k3, k4⟩ := Own2.cell h (j := a) (by omega)
  have H := hide h
  clear h
  cases hA : hf a with
  | true =>
    by_cases hbn : b < n
    · have bn : (b : Int) < (n : Int) := by omega
      cases hB : hf b with
      | true =>
        rw [hA] at k3
        have ha0 := h0 hA
        have z0 := Own2.cell (unhide H) (j := a - 1) (by omega)
        obtain ⟨⟨z1, z2⟩, z3, z4⟩ := z0
        have ea : ((a - 1 : Nat) : Int) = (a : Int) - 1 := by omega
        have ab0 : ¬ (a : Int) - 1 < 0 := by omega
        have ab1 : (a : Int) - 1 < (n : Int) := by omega
        have ab2 : ((a : Int) - 1).toNat = a - 1 := by omega
        have hbW1 := OwnC.blank (unhide H) (a - 1) (by omega)
        obtain ⟨W1, hW1⟩ : ∃ V, V = (World.setCell w ⟨g, (a - 1) * 2, none⟩ (.string { data := #[] })).setCell ⟨g, (a - 1) * 2 + 1, none⟩ (.bool false) := ⟨_, rfl⟩
        rw [← hW1] at hbW1
        have HOW1 := hide hbW1.1
        have HVW1 := hide hW1
        have HF1 := hide hbW1.2
        clear hbW1 hW1
        obtain ⟨⟨y1, y2⟩, y3, y4⟩ := Own2.cell (unhide HOW1) (j := b) (by omega)
        rw [show upd hf (a - 1) false b = hf b from if_neg (by omega)] at y3
        rw [unhide HVW1] at y1 y2 y3 y4
        rw [hB] at y3
        go_enter Tryz.func90, Tryz.ntmps90
        have hbW2 := OwnC.blank (unhide HOW1) (b) (by omega)
        obtain ⟨W2, hW2⟩ : ∃ V, V = (World.setCell W1 ⟨g, (b) * 2, none⟩ (.string { data := #[] })).setCell ⟨g, (b) * 2 + 1, none⟩ (.bool false) := ⟨_, rfl⟩
        rw [← hW2] at hbW2
        have HOW2 := hide hbW2.1
        have HVW2 := hide hW2
        have HF2 := hide (Fr.tr (unhide HF1) hbW2.2)
        clear hbW2 hW2
        go_wp2_with fail
        first | rw [← unhide HVW1] | skip
        rw [← unhide HVW2]
        have HL : Hid (OwnC W2 base (.slice (some ⟨g, 0, none⟩) n cap) n (blkT (upd (upd tx (a - 1) bz) b bz) bz a a) (blkT (upd (upd hf (a - 1) false) b false) false a a)) := hide (by rw [blkT_none, blkT_none]; exact unhide HOW2)
        have HFL : Hid (Fr (fun k => k = g) w W2) := hide (unhide HF2)
        clear k1 k2 k3 k4
        go_loopw [6] (fun v wr => ∃ k : Nat, a ≤ k ∧ k ≤ b ∧ v = .int .i64 k ∧ Hid (OwnC wr base (.slice (some ⟨g, 0, none⟩) n cap) n (blkT (upd (upd tx (a - 1) bz) b bz) bz a k) (blkT (upd (upd hf (a - 1) false) b false) false a k)) ∧ Hid (Fr (fun q => q = g) w wr)) (fun v _ => b - (intOf v).toNat)
        case atStart => exact ⟨a, Nat.le_refl _, by omega, rfl, HL, HFL⟩
        case round =>
          clear HL HFL
          obtain ⟨k, hk1, hk2, rfl, HK, HF⟩ := hrel
          by_cases hlt : k < b
          · have b1 : (k : Int) < (b : Int) := by omega
            have b2 : (k : Int) < (n : Int) := by omega
            obtain ⟨⟨x1, x2⟩, x3, x4⟩ := Own2.cell (unhide HK) (j := k) (by omega)
            obtain ⟨y1, y2⟩ := OwnC.blank (unhide HK) k (by omega)
            rw [blkT_upd _ _ _ _ hk1, blkT_upd _ _ _ _ hk1] at y1
            have HN := hide y1
            have HF9 := hide (Fr.tr (unhide HF) y2)
            clear y1 y2 HK HF
            go_wp2
            go_roundw
            case rel => exact ⟨k + 1, by omega, by omega, by go_num, HN, HF9⟩
            case measure => simp [intOf]; omega
          · obtain rfl : k = b := by omega
            have b1 : ¬ (k : Int) < (k : Int) := by omega
            go_wp2
            go_end0
            refine ⟨rfl, (unhide HK).congr (fun q hq => ?_), unhide HF⟩
            have key : clrT hf n a k q = true ↔ (a ≤ q ∧ q < k) ∨ (q + 1 = a ∧ hf a = true) ∨ (q = k ∧ k < n ∧ hf k = true) := clrT_iff
            unfold blkT upd clTx clHf
            by_cases c1 : clrT hf n a k q = true
            · rw [if_pos c1, if_pos c1]
              rcases key.1 c1 with e | e | e
              · rw [if_pos e, if_pos e]; exact ⟨rfl, rfl⟩
              · rw [if_neg (show ¬ (a ≤ q ∧ q < k) by omega), if_neg (show ¬ (a ≤ q ∧ q < k) by omega), if_neg (show ¬ q = k by omega), if_neg (show ¬ q = k by omega), if_pos (show q = a - 1 by omega), if_pos (show q = a - 1 by omega)]; exact ⟨rfl, rfl⟩
              · rw [if_neg (show ¬ (a ≤ q ∧ q < k) by omega), if_neg (show ¬ (a ≤ q ∧ q < k) by omega), if_pos e.1, if_pos e.1]; exact ⟨rfl, rfl⟩
            · rw [if_neg c1, if_neg c1]
              have e1 : ¬ (a ≤ q ∧ q < k) := fun x => c1 (key.2 (.inl x))
              rw [if_neg e1, if_neg e1]
              have e4 : ¬ q = k := fun x => c1 (key.2 (.inr (.inr ⟨x, by omega, hB⟩)))
              have e5 : ¬ q = a - 1 := fun x => c1 (key.2 (.inr (.inl ⟨by omega, hA⟩)))
              rw [if_neg e4, if_neg e4, if_neg e5, if_neg e5]
              exact ⟨rfl, rfl⟩
      | false =>
        rw [hA] at k3
        have ha0 := h0 hA
        have z0 := Own2.cell (unhide H) (j := a - 1) (by omega)
        obtain ⟨⟨z1, z2⟩, z3, z4⟩ := z0
        have ea : ((a - 1 : Nat) : Int) = (a : Int) - 1 := by omega
        have ab0 : ¬ (a : Int) - 1 < 0 := by omega
        have ab1 : (a : Int) - 1 < (n : Int) := by omega
        have ab2 : ((a : Int) - 1).toNat = a - 1 := by omega
        have hbW1 := OwnC.blank (unhide H) (a - 1) (by omega)
        obtain ⟨W1, hW1⟩ : ∃ V, V = (World.setCell w ⟨g, (a - 1) * 2, none⟩ (.string { data := #[] })).setCell ⟨g, (a - 1) * 2 + 1, none⟩ (.bool false) := ⟨_, rfl⟩
        rw [← hW1] at hbW1
        have HOW1 := hide hbW1.1
        have HVW1 := hide hW1
        have HF1 := hide hbW1.2
        clear hbW1 hW1
        obtain ⟨⟨y1, y2⟩, y3, y4⟩ := Own2.cell (unhide HOW1) (j := b) (by omega)
        rw [show upd hf (a - 1) false b = hf b from if_neg (by omega)] at y3
        rw [unhide HVW1] at y1 y2 y3 y4
        rw [hB] at y3
        go_enter Tryz.func90, Tryz.ntmps90
        go_wp2_with fail
        rw [← unhide HVW1]
        have HL : Hid (OwnC W1 base (.slice (some ⟨g, 0, none⟩) n cap) n (blkT (upd tx (a - 1) bz) bz a a) (blkT (upd hf (a - 1) false) false a a)) := hide (by rw [blkT_none, blkT_none]; exact unhide HOW1)
        have HFL : Hid (Fr (fun k => k = g) w W1) := hide (unhide HF1)
        clear k1 k2 k3 k4
        go_loopw [6] (fun v wr => ∃ k : Nat, a ≤ k ∧ k ≤ b ∧ v = .int .i64 k ∧ Hid (OwnC wr base (.slice (some ⟨g, 0, none⟩) n cap) n (blkT (upd tx (a - 1) bz) bz a k) (blkT (upd hf (a - 1) false) false a k)) ∧ Hid (Fr (fun q => q = g) w wr)) (fun v _ => b - (intOf v).toNat)
        case atStart => exact ⟨a, Nat.le_refl _, by omega, rfl, HL, HFL⟩
        case round =>
          clear HL HFL
          obtain ⟨k, hk1, hk2, rfl, HK, HF⟩ := hrel
          by_cases hlt : k < b
          · have b1 : (k : Int) < (b : Int) := by omega
            have b2 : (k : Int) < (n : Int) := by omega
            obtain ⟨⟨x1, x2⟩, x3, x4⟩ := Own2.cell (unhide HK) (j := k) (by omega)
            obtain ⟨y1, y2⟩ := OwnC.blank (unhide HK) k (by omega)
            rw [blkT_upd _ _ _ _ hk1, blkT_upd _ _ _ _ hk1] at y1
            have HN := hide y1
            have HF9 := hide (Fr.tr (unhide HF) y2)
            clear y1 y2 HK HF
            go_wp2
            go_roundw
            case rel => exact ⟨k + 1, by omega, by omega, by go_num, HN, HF9⟩
            case measure => simp [intOf]; omega
          · obtain rfl : k = b := by omega
            have b1 : ¬ (k : Int) < (k : Int) := by omega
            go_wp2
            go_end0
            refine ⟨rfl, (unhide HK).congr (fun q hq => ?_), unhide HF⟩
            have key : clrT hf n a k q = true ↔ (a ≤ q ∧ q < k) ∨ (q + 1 = a ∧ hf a = true) ∨ (q = k ∧ k < n ∧ hf k = true) := clrT_iff
            unfold blkT upd clTx clHf
            by_cases c1 : clrT hf n a k q = true
            · rw [if_pos c1, if_pos c1]
              rcases key.1 c1 with e | e | e
              · rw [if_pos e, if_pos e]; exact ⟨rfl, rfl⟩
              · rw [if_neg (show ¬ (a ≤ q ∧ q < k) by omega), if_neg (show ¬ (a ≤ q ∧ q < k) by omega), if_pos (show q = a - 1 by omega), if_pos (show q = a - 1 by omega)]; exact ⟨rfl, rfl⟩
              · exfalso; have e9 := e.2.2; rw [hB] at e9; cases e9
            · rw [if_neg c1, if_neg c1]
              have e1 : ¬ (a ≤ q ∧ q < k) := fun x => c1 (key.2 (.inl x))
              rw [if_neg e1, if_neg e1]
              have e5 : ¬ q = a - 1 := fun x => c1 (key.2 (.inr (.inl ⟨by omega, hA⟩)))
              rw [if_neg e5, if_neg e5]
              exact ⟨rfl, rfl⟩
    · have bn : ¬ (b : Int) < (n : Int) := by omega
      rw [hA] at k3
      have ha0 := h0 hA
      have z0 := Own2.cell (unhide H) (j := a - 1) (by omega)
      obtain ⟨⟨z1, z2⟩, z3, z4⟩ := z0
      have ea : ((a - 1 : Nat) : Int) = (a : Int) - 1 := by omega
      have ab0 : ¬ (a : Int) - 1 < 0 := by omega
      have ab1 : (a : Int) - 1 < (n : Int) := by omega
      have ab2 : ((a : Int) - 1).toNat = a - 1 := by omega
      have hbW1 := OwnC.blank (unhide H) (a - 1) (by omega)
      obtain ⟨W1, hW1⟩ : ∃ V, V = (World.setCell w ⟨g, (a - 1) * 2, none⟩ (.string { data := #[] })).setCell ⟨g, (a - 1) * 2 + 1, none⟩ (.bool false) := ⟨_, rfl⟩
      rw [← hW1] at hbW1
      have HOW1 := hide hbW1.1
      have HVW1 := hide hW1
      have HF1 := hide hbW1.2
      clear hbW1 hW1
      go_enter Tryz.func90, Tryz.ntmps90
      go_wp2_with fail
      rw [← unhide HVW1]
      have HL : Hid (OwnC W1 base (.slice (some ⟨g, 0, none⟩) n cap) n (blkT (upd tx (a - 1) bz) bz a a) (blkT (upd hf (a - 1) false) false a a)) := hide (by rw [blkT_none, blkT_none]; exact unhide HOW1)
      have HFL : Hid (Fr (fun k => k = g) w W1) := hide (unhide HF1)
      clear k1 k2 k3 k4
      go_loopw [6] (fun v wr => ∃ k : Nat, a ≤ k ∧ k ≤ b ∧ v = .int .i64 k ∧ Hid (OwnC wr base (.slice (some ⟨g, 0, none⟩) n cap) n (blkT (upd tx (a - 1) bz) bz a k) (blkT (upd hf (a - 1) false) false a k)) ∧ Hid (Fr (fun q => q = g) w wr)) (fun v _ => b - (intOf v).toNat)
      case atStart => exact ⟨a, Nat.le_refl _, by omega, rfl, HL, HFL⟩
      case round =>
        clear HL HFL
        obtain ⟨k, hk1, hk2, rfl, HK, HF⟩ := hrel
        by_cases hlt : k < b
        · have b1 : (k : Int) < (b : Int) := by omega
          have b2 : (k : Int) < (n : Int) := by omega
          obtain ⟨⟨x1, x2⟩, x3, x4⟩ := Own2.cell (unhide HK) (j := k) (by omega)
          obtain ⟨y1, y2⟩ := OwnC.blank (unhide HK) k (by omega)
          rw [blkT_upd _ _ _ _ hk1, blkT_upd _ _ _ _ hk1] at y1
          have HN := hide y1
          have HF9 := hide (Fr.tr (unhide HF) y2)
          clear y1 y2 HK HF
          go_wp2
          go_roundw
          case rel => exact ⟨k + 1, by omega, by omega, by go_num, HN, HF9⟩
          case measure => simp [intOf]; omega
        · obtain rfl : k = b := by omega
          have b1 : ¬ (k : Int) < (k : Int) := by omega
          go_wp2
          go_end0
          refine ⟨rfl, (unhide HK).congr (fun q hq => ?_), unhide HF⟩
          have key : clrT hf n a k q = true ↔ (a ≤ q ∧ q < k) ∨ (q + 1 = a ∧ hf a = true) ∨ (q = k ∧ k < n ∧ hf k = true) := clrT_iff
          unfold blkT upd clTx clHf
          by_cases c1 : clrT hf n a k q = true
          · rw [if_pos c1, if_pos c1]
            rcases key.1 c1 with e | e | e
            · rw [if_pos e, if_pos e]; exact ⟨rfl, rfl⟩
            · rw [if_neg (show ¬ (a ≤ q ∧ q < k) by omega), if_neg (show ¬ (a ≤ q ∧ q < k) by omega), if_pos (show q = a - 1 by omega), if_pos (show q = a - 1 by omega)]; exact ⟨rfl, rfl⟩
            · exfalso; omega
          · rw [if_neg c1, if_neg c1]
            have e1 : ¬ (a ≤ q ∧ q < k) := fun x => c1 (key.2 (.inl x))
            rw [if_neg e1, if_neg e1]
            have e5 : ¬ q = a - 1 := fun x => c1 (key.2 (.inr (.inl ⟨by omega, hA⟩)))
            rw [if_neg e5, if_neg e5]
            exact ⟨rfl, rfl⟩
  | false =>
    by_cases hbn : b < n
    · have bn : (b : Int) < (n : Int) := by omega
      cases hB : hf b with
      | true =>
        rw [hA] at k3
        obtain ⟨⟨y1, y2⟩, y3, y4⟩ := Own2.cell (unhide H) (j := b) (by omega)
        rw [hB] at y3
        go_enter Tryz.func90, Tryz.ntmps90
        have hbW2 := OwnC.blank (unhide H) (b) (by omega)
        obtain ⟨W2, hW2⟩ : ∃ V, V = (World.setCell w ⟨g, (b) * 2, none⟩ (.string { data := #[] })).setCell ⟨g, (b) * 2 + 1, none⟩ (.bool false) := ⟨_, rfl⟩
        rw [← hW2] at hbW2
        have HOW2 := hide hbW2.1
        have HVW2 := hide hW2
        have HF2 := hide (Fr.tr (Fr.refl _ w) hbW2.2)
        clear hbW2 hW2
        go_wp2_with fail
        rw [← unhide HVW2]
        have HL : Hid (OwnC W2 base (.slice (some ⟨g, 0, none⟩) n cap) n (blkT (upd tx b bz) bz a a) (blkT (upd hf b false) false a a)) := hide (by rw [blkT_none, blkT_none]; exact unhide HOW2)
        have HFL : Hid (Fr (fun k => k = g) w W2) := hide (unhide HF2)
        clear k1 k2 k3 k4
        go_loopw [6] (fun v wr => ∃ k : Nat, a ≤ k ∧ k ≤ b ∧ v = .int .i64 k ∧ Hid (OwnC wr base (.slice (some ⟨g, 0, none⟩) n cap) n (blkT (upd tx b bz) bz a k) (blkT (upd hf b false) false a k)) ∧ Hid (Fr (fun q => q = g) w wr)) (fun v _ => b - (intOf v).toNat)
        case atStart => exact ⟨a, Nat.le_refl _, by omega, rfl, HL, HFL⟩
        case round =>
          clear HL HFL
          obtain ⟨k, hk1, hk2, rfl, HK, HF⟩ := hrel
          by_cases hlt : k < b
          · have b1 : (k : Int) < (b : Int) := by omega
            have b2 : (k : Int) < (n : Int) := by omega
            obtain ⟨⟨x1, x2⟩, x3, x4⟩ := Own2.cell (unhide HK) (j := k) (by omega)
            obtain ⟨y1, y2⟩ := OwnC.blank (unhide HK) k (by omega)
            rw [blkT_upd _ _ _ _ hk1, blkT_upd _ _ _ _ hk1] at y1
            have HN := hide y1
            have HF9 := hide (Fr.tr (unhide HF) y2)
            clear y1 y2 HK HF
            go_wp2
            go_roundw
            case rel => exact ⟨k + 1, by omega, by omega, by go_num, HN, HF9⟩
            case measure => simp [intOf]; omega
          · obtain rfl : k = b := by omega
            have b1 : ¬ (k : Int) < (k : Int) := by omega
            go_wp2
            go_end0
            refine ⟨rfl, (unhide HK).congr (fun q hq => ?_), unhide HF⟩
            have key : clrT hf n a k q = true ↔ (a ≤ q ∧ q < k) ∨ (q + 1 = a ∧ hf a = true) ∨ (q = k ∧ k < n ∧ hf k = true) := clrT_iff
            unfold blkT upd clTx clHf
            by_cases c1 : clrT hf n a k q = true
            · rw [if_pos c1, if_pos c1]
              rcases key.1 c1 with e | e | e
              · rw [if_pos e, if_pos e]; exact ⟨rfl, rfl⟩
              · exfalso; have e9 := e.2; rw [hA] at e9; cases e9
              · rw [if_neg (show ¬ (a ≤ q ∧ q < k) by omega), if_neg (show ¬ (a ≤ q ∧ q < k) by omega), if_pos e.1, if_pos e.1]; exact ⟨rfl, rfl⟩
            · rw [if_neg c1, if_neg c1]
              have e1 : ¬ (a ≤ q ∧ q < k) := fun x => c1 (key.2 (.inl x))
              rw [if_neg e1, if_neg e1]
              have e4 : ¬ q = k := fun x => c1 (key.2 (.inr (.inr ⟨x, by omega, hB⟩)))
              rw [if_neg e4, if_neg e4]
              exact ⟨rfl, rfl⟩
      | false =>
        rw [hA] at k3
        obtain ⟨⟨y1, y2⟩, y3, y4⟩ := Own2.cell (unhide H) (j := b) (by omega)
        rw [hB] at y3
        go_enter Tryz.func90, Tryz.ntmps90
        go_wp2_with fail
        have HL : Hid (OwnC w base (.slice (some ⟨g, 0, none⟩) n cap) n (blkT tx bz a a) (blkT hf false a a)) := hide (by rw [blkT_none, blkT_none]; exact unhide H)
        have HFL : Hid (Fr (fun k => k = g) w w) := hide (Fr.refl _ w)
        clear k1 k2 k3 k4
        go_loopw [6] (fun v wr => ∃ k : Nat, a ≤ k ∧ k ≤ b ∧ v = .int .i64 k ∧ Hid (OwnC wr base (.slice (some ⟨g, 0, none⟩) n cap) n (blkT tx bz a k) (blkT hf false a k)) ∧ Hid (Fr (fun q => q = g) w wr)) (fun v _ => b - (intOf v).toNat)
        case atStart => exact ⟨a, Nat.le_refl _, by omega, rfl, HL, HFL⟩
        case round =>
          clear HL HFL
          obtain ⟨k, hk1, hk2, rfl, HK, HF⟩ := hrel
          by_cases hlt : k < b
          · have b1 : (k : Int) < (b : Int) := by omega
            have b2 : (k : Int) < (n : Int) := by omega
            obtain ⟨⟨x1, x2⟩, x3, x4⟩ := Own2.cell (unhide HK) (j := k) (by omega)
            obtain ⟨y1, y2⟩ := OwnC.blank (unhide HK) k (by omega)
            rw [blkT_upd _ _ _ _ hk1, blkT_upd _ _ _ _ hk1] at y1
            have HN := hide y1
            have HF9 := hide (Fr.tr (unhide HF) y2)
            clear y1 y2 HK HF
            go_wp2
            go_roundw
            case rel => exact ⟨k + 1, by omega, by omega, by go_num, HN, HF9⟩
            case measure => simp [intOf]; omega
          · obtain rfl : k = b := by omega
            have b1 : ¬ (k : Int) < (k : Int) := by omega
            go_wp2
            go_end0
            refine ⟨rfl, (unhide HK).congr (fun q hq => ?_), unhide HF⟩
            have key : clrT hf n a k q = true ↔ (a ≤ q ∧ q < k) ∨ (q + 1 = a ∧ hf a = true) ∨ (q = k ∧ k < n ∧ hf k = true) := clrT_iff
            unfold blkT clTx clHf
            by_cases c1 : clrT hf n a k q = true
            · rw [if_pos c1, if_pos c1]
              rcases key.1 c1 with e | e | e
              · rw [if_pos e, if_pos e]; exact ⟨rfl, rfl⟩
              · exfalso; have e9 := e.2; rw [hA] at e9; cases e9
              · exfalso; have e9 := e.2.2; rw [hB] at e9; cases e9
            · rw [if_neg c1, if_neg c1]
              have e1 : ¬ (a ≤ q ∧ q < k) := fun x => c1 (key.2 (.inl x))
              rw [if_neg e1, if_neg e1]
              exact ⟨rfl, rfl⟩
    · have bn : ¬ (b : Int) < (n : Int) := by omega
      rw [hA] at k3
      go_enter Tryz.func90, Tryz.ntmps90
      go_wp2_with fail
      have HL : Hid (OwnC w base (.slice (some ⟨g, 0, none⟩) n cap) n (blkT tx bz a a) (blkT hf false a a)) := hide (by rw [blkT_none, blkT_none]; exact unhide H)
      have HFL : Hid (Fr (fun k => k = g) w w) := hide (Fr.refl _ w)
      clear k1 k2 k3 k4
      go_loopw [6] (fun v wr => ∃ k : Nat, a ≤ k ∧ k ≤ b ∧ v = .int .i64 k ∧ Hid (OwnC wr base (.slice (some ⟨g, 0, none⟩) n cap) n (blkT tx bz a k) (blkT hf false a k)) ∧ Hid (Fr (fun q => q = g) w wr)) (fun v _ => b - (intOf v).toNat)
      case atStart => exact ⟨a, Nat.le_refl _, by omega, rfl, HL, HFL⟩
      case round =>
        clear HL HFL
        obtain ⟨k, hk1, hk2, rfl, HK, HF⟩ := hrel
        by_cases hlt : k < b
        · have b1 : (k : Int) < (b : Int) := by omega
          have b2 : (k : Int) < (n : Int) := by omega
          obtain ⟨⟨x1, x2⟩, x3, x4⟩ := Own2.cell (unhide HK) (j := k) (by omega)
          obtain ⟨y1, y2⟩ := OwnC.blank (unhide HK) k (by omega)
          rw [blkT_upd _ _ _ _ hk1, blkT_upd _ _ _ _ hk1] at y1
          have HN := hide y1
          have HF9 := hide (Fr.tr (unhide HF) y2)
          clear y1 y2 HK HF
          go_wp2
          go_roundw
          case rel => exact ⟨k + 1, by omega, by omega, by go_num, HN, HF9⟩
          case measure => simp [intOf]; omega
        · obtain rfl : k = b := by omega
          have b1 : ¬ (k : Int) < (k : Int) := by omega
          go_wp2
          go_end0
          refine ⟨rfl, (unhide HK).congr (fun q hq => ?_), unhide HF⟩
          have key : clrT hf n a k q = true ↔ (a ≤ q ∧ q < k) ∨ (q + 1 = a ∧ hf a = true) ∨ (q = k ∧ k < n ∧ hf k = true) := clrT_iff
          unfold blkT clTx clHf
          by_cases c1 : clrT hf n a k q = true
          · rw [if_pos c1, if_pos c1]
            rcases key.1 c1 with e | e | e
            · rw [if_pos e, if_pos e]; exact ⟨rfl, rfl⟩
            · exfalso; have e9 := e.2; rw [hA] at e9; cases e9
            · exfalso; omega
          · rw [if_neg c1, if_neg c1]
            have e1 : ¬ (a ≤ q ∧ q < k) := fun x => c1 (key.2 (.inl x))
            rw [if_neg e1, if_neg e1]
            exact ⟨rfl, rfl⟩
end
end Go.Proofs.YtinfdhbnljnifaaGreatDoor

namespace Go.Proofs.YtinfdhbnljnifaaGreatDoor
open Go.RowKit
section
variable {F base : Nat} {X : Nat → Prop} {d : SD} {gv : Value} {rv : Nat → Value} {hv bv : Value}
set_option maxRecDepth 10000 in
set_option maxHeartbeats 8000000 in
theorem blank_any (w : World) (h : ScrW w F base X d gv rv hv bv) (i j : Nat) (hi : i < d.R) (hj : j < d.C i) (hC : (d.C i : Int) = d.cols) (h0 : d.hf i j = true → 0 < j) (hC2 : d.C i ≤ 200) :
    Calls Tryz.prog 164 #[.pointer (some ⟨F, 0, none⟩), .int .i64 (i : Int), .int .i64 (j : Int)] w fun e w' => e = .returned (.tuple #[]) ∧ ScrW w' F base X (d.clr i j (j + 1)) gv rv hv bv ∧ Fr (fun k => (rv i).ownBlock = some k) w w' := by
  obtain ⟨g, cap, hg, _, _, _, _⟩ := h.cellOf i j hi hj
  have HG := hide hg
  have Hw := hide h
  have HFw : Hid (Fr (fun k => (rv i).ownBlock = some k) w w) := hide (Fr.refl _ _)
  have wm : IntKind.i64.wrap ((j : Int) - 1) = (j : Int) - 1 := by rw [IntKind.wrap_i64] <;> omega
  have wp : IntKind.i64.wrap ((j : Int) + 1) = (j : Int) + 1 := by rw [IntKind.wrap_i64] <;> omega
  have cl := clr_blk d i j h0 _ _ rfl rfl
  have HCl := hide cl
  clear hg h cl
  cases hh : d.hf i j with
  | true =>
    have hj0 := h0 hh
    by_cases hc2 : j + 1 < d.C i
    · have b1 : (j : Int) + 1 < d.cols := by omega
      cases h2 : d.hf i (j + 1) with
      | true =>
        go_enter Tryz.func164, Tryz.ntmps164
        have HCn := hide (cell_any w (unhide Hw) i j g cap hi (by show j < d.C i; omega) (unhide HG))
        go_wp2_with fail
        refine (unhide HCn).mono ?_
        rintro e w1 ⟨rfl, Ew1⟩
        have Hw1 := hide ((unhide Hw).ext Ew1)
        have HFw1 := hide (Fr.tr (unhide HFw) (Fr.of_ext Ew1))
        clear HCn Ew1
        obtain ⟨g', cap', e', k1, k2, k3, k4⟩ := (unhide Hw1).cellOf i j hi (by show j < d.C i; omega)
        rw [unhide HG] at e'
        simp only [Value.slice.injEq, Option.some.injEq, Addr.mk.injEq, and_true] at e'
        rw [← e'.1] at k1 k2 k3 k4
        clear e'
        rw [hh] at k2
        have HCn := hide (cell_any w1 (unhide Hw1) i (j - 1) g cap hi (by show (j - 1) < d.C i; omega) (unhide HG))
        rw [show ((j - 1 : Nat) : Int) = (j : Int) - 1 by omega] at HCn
        go_wp2_with fail
        refine (unhide HCn).mono ?_
        rintro e w2 ⟨rfl, Ew2⟩
        have Hw2 := hide ((unhide Hw1).ext Ew2)
        have HFw2 := hide (Fr.tr (unhide HFw1) (Fr.of_ext Ew2))
        clear HCn Ew2
        clear k1 k2 k3 k4
        obtain ⟨g', cap', e', s1, s2, s3, s4⟩ := (unhide Hw2).cellOf i (j - 1) hi (by show (j - 1) < d.C i; omega)
        rw [unhide HG] at e'
        simp only [Value.slice.injEq, Option.some.injEq, Addr.mk.injEq, and_true] at e'
        rw [← e'.1] at s1 s2 s3 s4
        clear e'
        obtain ⟨w3, hw3⟩ : ∃ V, V = (World.setCell w2 ⟨g, (j - 1) * 2, none⟩ (.string { data := #[] })).setCell ⟨g, (j - 1) * 2 + 1, none⟩ (.bool false) := ⟨_, rfl⟩
        have sb := (unhide Hw2).blk1 i (j - 1) g cap hi (by show (j - 1) < d.C i; omega) (unhide HG)
        rw [show (World.setCell w2 ⟨g, (j - 1) * 2, none⟩ (.string bz)).setCell ⟨g, (j - 1) * 2 + 1, none⟩ (.bool false) = w3 from hw3.symm] at sb
        have Hw3 := hide sb.1
        have HFw3 := hide (Fr.tr (unhide HFw2) sb.2)
        have HVw3 := hide hw3
        clear sb hw3
        have c0 : World.cell? w3 ⟨F, 0, none⟩ = some (.int .i64 d.cols) := cells_of (unhide Hw3).box 0 _ rfl
        rw [unhide HVw3] at c0
        have HCn := hide (cell_any w3 (unhide Hw3) i (j + 1) g cap hi (by show (j + 1) < d.C i; omega) (unhide HG))
        rw [show ((j + 1 : Nat) : Int) = (j : Int) + 1 by omega] at HCn
        go_wp2_with fail
        rw [← unhide HVw3]
        refine (unhide HCn).mono ?_
        rintro e w4 ⟨rfl, Ew4⟩
        have Hw4 := hide ((unhide Hw3).ext Ew4)
        have HFw4 := hide (Fr.tr (unhide HFw3) (Fr.of_ext Ew4))
        clear HCn Ew4
        clear s1 s2 s3 s4
        obtain ⟨g', cap', e', m1, m2, m3, m4⟩ := (unhide Hw4).cellOf i (j + 1) hi (by show (j + 1) < d.C i; omega)
        rw [unhide HG] at e'
        simp only [Value.slice.injEq, Option.some.injEq, Addr.mk.injEq, and_true] at e'
        rw [← e'.1] at m1 m2 m3 m4
        clear e'
        rw [show (d.blk i (j - 1)).hf i (j + 1) = d.hf i (j + 1) from if_neg (by omega)] at m2
        rw [h2] at m2
        have HCn := hide (cell_any w4 (unhide Hw4) i (j + 1) g cap hi (by show (j + 1) < d.C i; omega) (unhide HG))
        rw [show ((j + 1 : Nat) : Int) = (j : Int) + 1 by omega] at HCn
        go_wp2_with fail
        refine (unhide HCn).mono ?_
        rintro e w5 ⟨rfl, Ew5⟩
        have Hw5 := hide ((unhide Hw4).ext Ew5)
        have HFw5 := hide (Fr.tr (unhide HFw4) (Fr.of_ext Ew5))
        clear HCn Ew5
        clear m1 m2 m3 m4
        obtain ⟨g', cap', e', s1, s2, s3, s4⟩ := (unhide Hw5).cellOf i (j + 1) hi (by show (j + 1) < d.C i; omega)
        rw [unhide HG] at e'
        simp only [Value.slice.injEq, Option.some.injEq, Addr.mk.injEq, and_true] at e'
        rw [← e'.1] at s1 s2 s3 s4
        clear e'
        obtain ⟨w6, hw6⟩ : ∃ V, V = (World.setCell w5 ⟨g, (j + 1) * 2, none⟩ (.string { data := #[] })).setCell ⟨g, (j + 1) * 2 + 1, none⟩ (.bool false) := ⟨_, rfl⟩
        have sb := (unhide Hw5).blk1 i (j + 1) g cap hi (by show (j + 1) < d.C i; omega) (unhide HG)
        rw [show (World.setCell w5 ⟨g, (j + 1) * 2, none⟩ (.string bz)).setCell ⟨g, (j + 1) * 2 + 1, none⟩ (.bool false) = w6 from hw6.symm] at sb
        have Hw6 := hide sb.1
        have HFw6 := hide (Fr.tr (unhide HFw5) sb.2)
        have HVw6 := hide hw6
        clear sb hw6
        have HCn := hide (cell_any w6 (unhide Hw6) i j g cap hi (by show j < d.C i; omega) (unhide HG))
        go_wp2_with fail
        rw [← unhide HVw6]
        refine (unhide HCn).mono ?_
        rintro e w7 ⟨rfl, Ew7⟩
        have Hw7 := hide ((unhide Hw6).ext Ew7)
        have HFw7 := hide (Fr.tr (unhide HFw6) (Fr.of_ext Ew7))
        clear HCn Ew7
        try clear s1 s2 s3 s4
        obtain ⟨g', cap', e', s1, s2, s3, s4⟩ := (unhide Hw7).cellOf i j hi (by show j < d.C i; omega)
        rw [unhide HG] at e'
        simp only [Value.slice.injEq, Option.some.injEq, Addr.mk.injEq, and_true] at e'
        rw [← e'.1] at s1 s2 s3 s4
        clear e'
        obtain ⟨w8, hw8⟩ : ∃ V, V = (World.setCell w7 ⟨g, j * 2, none⟩ (.string { data := #[] })).setCell ⟨g, j * 2 + 1, none⟩ (.bool false) := ⟨_, rfl⟩
        have sb := (unhide Hw7).blk1 i j g cap hi (by show j < d.C i; omega) (unhide HG)
        rw [show (World.setCell w7 ⟨g, j * 2, none⟩ (.string bz)).setCell ⟨g, j * 2 + 1, none⟩ (.bool false) = w8 from hw8.symm] at sb
        have Hw8 := hide sb.1
        have HFw8 := hide (Fr.tr (unhide HFw7) sb.2)
        have HVw8 := hide hw8
        clear sb hw8
        go_wp2
        go_end0
        rw [← unhide HVw8]
        have hcl := unhide HCl
        rw [if_pos hh] at hcl
        rw [if_pos ⟨hc2, h2⟩] at hcl
        have hfin := unhide Hw8
        rw [hcl] at hfin
        exact ⟨rfl, hfin, unhide HFw8⟩
      | false =>
        go_enter Tryz.func164, Tryz.ntmps164
        have HCn := hide (cell_any w (unhide Hw) i j g cap hi (by show j < d.C i; omega) (unhide HG))
        go_wp2_with fail
        refine (unhide HCn).mono ?_
        rintro e w1 ⟨rfl, Ew1⟩
        have Hw1 := hide ((unhide Hw).ext Ew1)
        have HFw1 := hide (Fr.tr (unhide HFw) (Fr.of_ext Ew1))
        clear HCn Ew1
        obtain ⟨g', cap', e', k1, k2, k3, k4⟩ := (unhide Hw1).cellOf i j hi (by show j < d.C i; omega)
        rw [unhide HG] at e'
        simp only [Value.slice.injEq, Option.some.injEq, Addr.mk.injEq, and_true] at e'
        rw [← e'.1] at k1 k2 k3 k4
        clear e'
        rw [hh] at k2
        have HCn := hide (cell_any w1 (unhide Hw1) i (j - 1) g cap hi (by show (j - 1) < d.C i; omega) (unhide HG))
        rw [show ((j - 1 : Nat) : Int) = (j : Int) - 1 by omega] at HCn
        go_wp2_with fail
        refine (unhide HCn).mono ?_
        rintro e w2 ⟨rfl, Ew2⟩
        have Hw2 := hide ((unhide Hw1).ext Ew2)
        have HFw2 := hide (Fr.tr (unhide HFw1) (Fr.of_ext Ew2))
        clear HCn Ew2
        clear k1 k2 k3 k4
        obtain ⟨g', cap', e', s1, s2, s3, s4⟩ := (unhide Hw2).cellOf i (j - 1) hi (by show (j - 1) < d.C i; omega)
        rw [unhide HG] at e'
        simp only [Value.slice.injEq, Option.some.injEq, Addr.mk.injEq, and_true] at e'
        rw [← e'.1] at s1 s2 s3 s4
        clear e'
        obtain ⟨w3, hw3⟩ : ∃ V, V = (World.setCell w2 ⟨g, (j - 1) * 2, none⟩ (.string { data := #[] })).setCell ⟨g, (j - 1) * 2 + 1, none⟩ (.bool false) := ⟨_, rfl⟩
        have sb := (unhide Hw2).blk1 i (j - 1) g cap hi (by show (j - 1) < d.C i; omega) (unhide HG)
        rw [show (World.setCell w2 ⟨g, (j - 1) * 2, none⟩ (.string bz)).setCell ⟨g, (j - 1) * 2 + 1, none⟩ (.bool false) = w3 from hw3.symm] at sb
        have Hw3 := hide sb.1
        have HFw3 := hide (Fr.tr (unhide HFw2) sb.2)
        have HVw3 := hide hw3
        clear sb hw3
        have c0 : World.cell? w3 ⟨F, 0, none⟩ = some (.int .i64 d.cols) := cells_of (unhide Hw3).box 0 _ rfl
        rw [unhide HVw3] at c0
        have HCn := hide (cell_any w3 (unhide Hw3) i (j + 1) g cap hi (by show (j + 1) < d.C i; omega) (unhide HG))
        rw [show ((j + 1 : Nat) : Int) = (j : Int) + 1 by omega] at HCn
        go_wp2_with fail
        rw [← unhide HVw3]
        refine (unhide HCn).mono ?_
        rintro e w4 ⟨rfl, Ew4⟩
        have Hw4 := hide ((unhide Hw3).ext Ew4)
        have HFw4 := hide (Fr.tr (unhide HFw3) (Fr.of_ext Ew4))
        clear HCn Ew4
        clear s1 s2 s3 s4
        obtain ⟨g', cap', e', m1, m2, m3, m4⟩ := (unhide Hw4).cellOf i (j + 1) hi (by show (j + 1) < d.C i; omega)
        rw [unhide HG] at e'
        simp only [Value.slice.injEq, Option.some.injEq, Addr.mk.injEq, and_true] at e'
        rw [← e'.1] at m1 m2 m3 m4
        clear e'
        rw [show (d.blk i (j - 1)).hf i (j + 1) = d.hf i (j + 1) from if_neg (by omega)] at m2
        rw [h2] at m2
        have HCn := hide (cell_any w4 (unhide Hw4) i j g cap hi (by show j < d.C i; omega) (unhide HG))
        go_wp2_with fail
        refine (unhide HCn).mono ?_
        rintro e w7 ⟨rfl, Ew7⟩
        have Hw7 := hide ((unhide Hw4).ext Ew7)
        have HFw7 := hide (Fr.tr (unhide HFw4) (Fr.of_ext Ew7))
        clear HCn Ew7
        try clear s1 s2 s3 s4
        obtain ⟨g', cap', e', s1, s2, s3, s4⟩ := (unhide Hw7).cellOf i j hi (by show j < d.C i; omega)
        rw [unhide HG] at e'
        simp only [Value.slice.injEq, Option.some.injEq, Addr.mk.injEq, and_true] at e'
        rw [← e'.1] at s1 s2 s3 s4
        clear e'
        obtain ⟨w8, hw8⟩ : ∃ V, V = (World.setCell w7 ⟨g, j * 2, none⟩ (.string { data := #[] })).setCell ⟨g, j * 2 + 1, none⟩ (.bool false) := ⟨_, rfl⟩
        have sb := (unhide Hw7).blk1 i j g cap hi (by show j < d.C i; omega) (unhide HG)
        rw [show (World.setCell w7 ⟨g, j * 2, none⟩ (.string bz)).setCell ⟨g, j * 2 + 1, none⟩ (.bool false) = w8 from hw8.symm] at sb
        have Hw8 := hide sb.1
        have HFw8 := hide (Fr.tr (unhide HFw7) sb.2)
        have HVw8 := hide hw8
        clear sb hw8
        go_wp2
        go_end0
        rw [← unhide HVw8]
        have hcl := unhide HCl
        rw [if_pos hh] at hcl
        rw [if_neg (c := j + 1 < d.C i ∧ d.hf i (j + 1) = true) (fun x => by have x2 := x.2; rw [h2] at x2; cases x2)] at hcl
        have hfin := unhide Hw8
        rw [hcl] at hfin
        exact ⟨rfl, hfin, unhide HFw8⟩
    · have b1 : ¬ (j : Int) + 1 < d.cols := by omega
      go_enter Tryz.func164, Tryz.ntmps164
      have HCn := hide (cell_any w (unhide Hw) i j g cap hi (by show j < d.C i; omega) (unhide HG))
      go_wp2_with fail
      refine (unhide HCn).mono ?_
      rintro e w1 ⟨rfl, Ew1⟩
      have Hw1 := hide ((unhide Hw).ext Ew1)
      have HFw1 := hide (Fr.tr (unhide HFw) (Fr.of_ext Ew1))
      clear HCn Ew1
      obtain ⟨g', cap', e', k1, k2, k3, k4⟩ := (unhide Hw1).cellOf i j hi (by show j < d.C i; omega)
      rw [unhide HG] at e'
      simp only [Value.slice.injEq, Option.some.injEq, Addr.mk.injEq, and_true] at e'
      rw [← e'.1] at k1 k2 k3 k4
      clear e'
      rw [hh] at k2
      have HCn := hide (cell_any w1 (unhide Hw1) i (j - 1) g cap hi (by show (j - 1) < d.C i; omega) (unhide HG))
      rw [show ((j - 1 : Nat) : Int) = (j : Int) - 1 by omega] at HCn
      go_wp2_with fail
      refine (unhide HCn).mono ?_
      rintro e w2 ⟨rfl, Ew2⟩
      have Hw2 := hide ((unhide Hw1).ext Ew2)
      have HFw2 := hide (Fr.tr (unhide HFw1) (Fr.of_ext Ew2))
      clear HCn Ew2
      clear k1 k2 k3 k4
      obtain ⟨g', cap', e', s1, s2, s3, s4⟩ := (unhide Hw2).cellOf i (j - 1) hi (by show (j - 1) < d.C i; omega)
      rw [unhide HG] at e'
      simp only [Value.slice.injEq, Option.some.injEq, Addr.mk.injEq, and_true] at e'
      rw [← e'.1] at s1 s2 s3 s4
      clear e'
      obtain ⟨w3, hw3⟩ : ∃ V, V = (World.setCell w2 ⟨g, (j - 1) * 2, none⟩ (.string { data := #[] })).setCell ⟨g, (j - 1) * 2 + 1, none⟩ (.bool false) := ⟨_, rfl⟩
      have sb := (unhide Hw2).blk1 i (j - 1) g cap hi (by show (j - 1) < d.C i; omega) (unhide HG)
      rw [show (World.setCell w2 ⟨g, (j - 1) * 2, none⟩ (.string bz)).setCell ⟨g, (j - 1) * 2 + 1, none⟩ (.bool false) = w3 from hw3.symm] at sb
      have Hw3 := hide sb.1
      have HFw3 := hide (Fr.tr (unhide HFw2) sb.2)
      have HVw3 := hide hw3
      clear sb hw3
      have c0 : World.cell? w3 ⟨F, 0, none⟩ = some (.int .i64 d.cols) := cells_of (unhide Hw3).box 0 _ rfl
      rw [unhide HVw3] at c0
      have HCn := hide (cell_any w3 (unhide Hw3) i j g cap hi (by show j < d.C i; omega) (unhide HG))
      go_wp2_with fail
      rw [← unhide HVw3]
      refine (unhide HCn).mono ?_
      rintro e w7 ⟨rfl, Ew7⟩
      have Hw7 := hide ((unhide Hw3).ext Ew7)
      have HFw7 := hide (Fr.tr (unhide HFw3) (Fr.of_ext Ew7))
      clear HCn Ew7
      try clear s1 s2 s3 s4
      obtain ⟨g', cap', e', s1, s2, s3, s4⟩ := (unhide Hw7).cellOf i j hi (by show j < d.C i; omega)
      rw [unhide HG] at e'
      simp only [Value.slice.injEq, Option.some.injEq, Addr.mk.injEq, and_true] at e'
      rw [← e'.1] at s1 s2 s3 s4
      clear e'
      obtain ⟨w8, hw8⟩ : ∃ V, V = (World.setCell w7 ⟨g, j * 2, none⟩ (.string { data := #[] })).setCell ⟨g, j * 2 + 1, none⟩ (.bool false) := ⟨_, rfl⟩
      have sb := (unhide Hw7).blk1 i j g cap hi (by show j < d.C i; omega) (unhide HG)
      rw [show (World.setCell w7 ⟨g, j * 2, none⟩ (.string bz)).setCell ⟨g, j * 2 + 1, none⟩ (.bool false) = w8 from hw8.symm] at sb
      have Hw8 := hide sb.1
      have HFw8 := hide (Fr.tr (unhide HFw7) sb.2)
      have HVw8 := hide hw8
      clear sb hw8
      go_wp2
      go_end0
      rw [← unhide HVw8]
      have hcl := unhide HCl
      rw [if_pos hh] at hcl
      rw [if_neg (c := j + 1 < d.C i ∧ d.hf i (j + 1) = true) (fun x => hc2 x.1)] at hcl
      have hfin := unhide Hw8
      rw [hcl] at hfin
      exact ⟨rfl, hfin, unhide HFw8⟩
  | false =>
    by_cases hc2 : j + 1 < d.C i
    · have b1 : (j : Int) + 1 < d.cols := by omega
      cases h2 : d.hf i (j + 1) with
      | true =>
        go_enter Tryz.func164, Tryz.ntmps164
        have HCn := hide (cell_any w (unhide Hw) i j g cap hi (by show j < d.C i; omega) (unhide HG))
        go_wp2_with fail
        refine (unhide HCn).mono ?_
        rintro e w1 ⟨rfl, Ew1⟩
        have Hw1 := hide ((unhide Hw).ext Ew1)
        have HFw1 := hide (Fr.tr (unhide HFw) (Fr.of_ext Ew1))
        clear HCn Ew1
        obtain ⟨g', cap', e', k1, k2, k3, k4⟩ := (unhide Hw1).cellOf i j hi (by show j < d.C i; omega)
        rw [unhide HG] at e'
        simp only [Value.slice.injEq, Option.some.injEq, Addr.mk.injEq, and_true] at e'
        rw [← e'.1] at k1 k2 k3 k4
        clear e'
        rw [hh] at k2
        have c0 : World.cell? w1 ⟨F, 0, none⟩ = some (.int .i64 d.cols) := cells_of (unhide Hw1).box 0 _ rfl
        have HCn := hide (cell_any w1 (unhide Hw1) i (j + 1) g cap hi (by show (j + 1) < d.C i; omega) (unhide HG))
        rw [show ((j + 1 : Nat) : Int) = (j : Int) + 1 by omega] at HCn
        go_wp2_with fail
        refine (unhide HCn).mono ?_
        rintro e w4 ⟨rfl, Ew4⟩
        have Hw4 := hide ((unhide Hw1).ext Ew4)
        have HFw4 := hide (Fr.tr (unhide HFw1) (Fr.of_ext Ew4))
        clear HCn Ew4
        clear k1 k2 k3 k4
        obtain ⟨g', cap', e', m1, m2, m3, m4⟩ := (unhide Hw4).cellOf i (j + 1) hi (by show (j + 1) < d.C i; omega)
        rw [unhide HG] at e'
        simp only [Value.slice.injEq, Option.some.injEq, Addr.mk.injEq, and_true] at e'
        rw [← e'.1] at m1 m2 m3 m4
        clear e'
        rw [h2] at m2
        have HCn := hide (cell_any w4 (unhide Hw4) i (j + 1) g cap hi (by show (j + 1) < d.C i; omega) (unhide HG))
        rw [show ((j + 1 : Nat) : Int) = (j : Int) + 1 by omega] at HCn
        go_wp2_with fail
        refine (unhide HCn).mono ?_
        rintro e w5 ⟨rfl, Ew5⟩
        have Hw5 := hide ((unhide Hw4).ext Ew5)
        have HFw5 := hide (Fr.tr (unhide HFw4) (Fr.of_ext Ew5))
        clear HCn Ew5
        clear m1 m2 m3 m4
        obtain ⟨g', cap', e', s1, s2, s3, s4⟩ := (unhide Hw5).cellOf i (j + 1) hi (by show (j + 1) < d.C i; omega)
        rw [unhide HG] at e'
        simp only [Value.slice.injEq, Option.some.injEq, Addr.mk.injEq, and_true] at e'
        rw [← e'.1] at s1 s2 s3 s4
        clear e'
        obtain ⟨w6, hw6⟩ : ∃ V, V = (World.setCell w5 ⟨g, (j + 1) * 2, none⟩ (.string { data := #[] })).setCell ⟨g, (j + 1) * 2 + 1, none⟩ (.bool false) := ⟨_, rfl⟩
        have sb := (unhide Hw5).blk1 i (j + 1) g cap hi (by show (j + 1) < d.C i; omega) (unhide HG)
        rw [show (World.setCell w5 ⟨g, (j + 1) * 2, none⟩ (.string bz)).setCell ⟨g, (j + 1) * 2 + 1, none⟩ (.bool false) = w6 from hw6.symm] at sb
        have Hw6 := hide sb.1
        have HFw6 := hide (Fr.tr (unhide HFw5) sb.2)
        have HVw6 := hide hw6
        clear sb hw6
        have HCn := hide (cell_any w6 (unhide Hw6) i j g cap hi (by show j < d.C i; omega) (unhide HG))
        go_wp2_with fail
        rw [← unhide HVw6]
        refine (unhide HCn).mono ?_
        rintro e w7 ⟨rfl, Ew7⟩
        have Hw7 := hide ((unhide Hw6).ext Ew7)
        have HFw7 := hide (Fr.tr (unhide HFw6) (Fr.of_ext Ew7))
        clear HCn Ew7
        try clear s1 s2 s3 s4
        obtain ⟨g', cap', e', s1, s2, s3, s4⟩ := (unhide Hw7).cellOf i j hi (by show j < d.C i; omega)
        rw [unhide HG] at e'
        simp only [Value.slice.injEq, Option.some.injEq, Addr.mk.injEq, and_true] at e'
        rw [← e'.1] at s1 s2 s3 s4
        clear e'
        obtain ⟨w8, hw8⟩ : ∃ V, V = (World.setCell w7 ⟨g, j * 2, none⟩ (.string { data := #[] })).setCell ⟨g, j * 2 + 1, none⟩ (.bool false) := ⟨_, rfl⟩
        have sb := (unhide Hw7).blk1 i j g cap hi (by show j < d.C i; omega) (unhide HG)
        rw [show (World.setCell w7 ⟨g, j * 2, none⟩ (.string bz)).setCell ⟨g, j * 2 + 1, none⟩ (.bool false) = w8 from hw8.symm] at sb
        have Hw8 := hide sb.1
        have HFw8 := hide (Fr.tr (unhide HFw7) sb.2)
        have HVw8 := hide hw8
        clear sb hw8
        go_wp2
        go_end0
        rw [← unhide HVw8]
        have hcl := unhide HCl
        rw [if_neg (c := d.hf i j = true) (by rw [hh]; simp)] at hcl
        rw [if_pos ⟨hc2, h2⟩] at hcl
        have hfin := unhide Hw8
        rw [hcl] at hfin
        exact ⟨rfl, hfin, unhide HFw8⟩
      | false =>
        go_enter Tryz.func164, Tryz.ntmps164
        have HCn := hide (cell_any w (unhide Hw) i j g cap hi (by show j < d.C i; omega) (unhide HG))
        go_wp2_with fail
        refine (unhide HCn).mono ?_
        rintro e w1 ⟨rfl, Ew1⟩
        have Hw1 := hide ((unhide Hw).ext Ew1)
        have HFw1 := hide (Fr.tr (unhide HFw) (Fr.of_ext Ew1))
        clear HCn Ew1
        obtain ⟨g', cap', e', k1, k2, k3, k4⟩ := (unhide Hw1).cellOf i j hi (by show j < d.C i; omega)
        rw [unhide HG] at e'
        simp only [Value.slice.injEq, Option.some.injEq, Addr.mk.injEq, and_true] at e'
        rw [← e'.1] at k1 k2 k3 k4
        clear e'
        rw [hh] at k2
        have c0 : World.cell? w1 ⟨F, 0, none⟩ = some (.int .i64 d.cols) := cells_of (unhide Hw1).box 0 _ rfl
        have HCn := hide (cell_any w1 (unhide Hw1) i (j + 1) g cap hi (by show (j + 1) < d.C i; omega) (unhide HG))
        rw [show ((j + 1 : Nat) : Int) = (j : Int) + 1 by omega] at HCn
        go_wp2_with fail
        refine (unhide HCn).mono ?_
        rintro e w4 ⟨rfl, Ew4⟩
        have Hw4 := hide ((unhide Hw1).ext Ew4)
        have HFw4 := hide (Fr.tr (unhide HFw1) (Fr.of_ext Ew4))
        clear HCn Ew4
        clear k1 k2 k3 k4
        obtain ⟨g', cap', e', m1, m2, m3, m4⟩ := (unhide Hw4).cellOf i (j + 1) hi (by show (j + 1) < d.C i; omega)
        rw [unhide HG] at e'
        simp only [Value.slice.injEq, Option.some.injEq, Addr.mk.injEq, and_true] at e'
        rw [← e'.1] at m1 m2 m3 m4
        clear e'
        rw [h2] at m2
        have HCn := hide (cell_any w4 (unhide Hw4) i j g cap hi (by show j < d.C i; omega) (unhide HG))
        go_wp2_with fail
        refine (unhide HCn).mono ?_
        rintro e w7 ⟨rfl, Ew7⟩
        have Hw7 := hide ((unhide Hw4).ext Ew7)
        have HFw7 := hide (Fr.tr (unhide HFw4) (Fr.of_ext Ew7))
        clear HCn Ew7
        try clear s1 s2 s3 s4
        obtain ⟨g', cap', e', s1, s2, s3, s4⟩ := (unhide Hw7).cellOf i j hi (by show j < d.C i; omega)
        rw [unhide HG] at e'
        simp only [Value.slice.injEq, Option.some.injEq, Addr.mk.injEq, and_true] at e'
        rw [← e'.1] at s1 s2 s3 s4
        clear e'
        obtain ⟨w8, hw8⟩ : ∃ V, V = (World.setCell w7 ⟨g, j * 2, none⟩ (.string { data := #[] })).setCell ⟨g, j * 2 + 1, none⟩ (.bool false) := ⟨_, rfl⟩
        have sb := (unhide Hw7).blk1 i j g cap hi (by show j < d.C i; omega) (unhide HG)
        rw [show (World.setCell w7 ⟨g, j * 2, none⟩ (.string bz)).setCell ⟨g, j * 2 + 1, none⟩ (.bool false) = w8 from hw8.symm] at sb
        have Hw8 := hide sb.1
        have HFw8 := hide (Fr.tr (unhide HFw7) sb.2)
        have HVw8 := hide hw8
        clear sb hw8
        go_wp2
        go_end0
        rw [← unhide HVw8]
        have hcl := unhide HCl
        rw [if_neg (c := d.hf i j = true) (by rw [hh]; simp)] at hcl
        rw [if_neg (c := j + 1 < d.C i ∧ d.hf i (j + 1) = true) (fun x => by have x2 := x.2; rw [h2] at x2; cases x2)] at hcl
        have hfin := unhide Hw8
        rw [hcl] at hfin
        exact ⟨rfl, hfin, unhide HFw8⟩
    · have b1 : ¬ (j : Int) + 1 < d.cols := by omega
      go_enter Tryz.func164, Tryz.ntmps164
      have HCn := hide (cell_any w (unhide Hw) i j g cap hi (by show j < d.C i; omega) (unhide HG))
      go_wp2_with fail
      refine (unhide HCn).mono ?_
      rintro e w1 ⟨rfl, Ew1⟩
      have Hw1 := hide ((unhide Hw).ext Ew1)
      have HFw1 := hide (Fr.tr (unhide HFw) (Fr.of_ext Ew1))
      clear HCn Ew1
      obtain ⟨g', cap', e', k1, k2, k3, k4⟩ := (unhide Hw1).cellOf i j hi (by show j < d.C i; omega)
      rw [unhide HG] at e'
      simp only [Value.slice.injEq, Option.some.injEq, Addr.mk.injEq, and_true] at e'
      rw [← e'.1] at k1 k2 k3 k4
      clear e'
      rw [hh] at k2
      have c0 : World.cell? w1 ⟨F, 0, none⟩ = some (.int .i64 d.cols) := cells_of (unhide Hw1).box 0 _ rfl
      have HCn := hide (cell_any w1 (unhide Hw1) i j g cap hi (by show j < d.C i; omega) (unhide HG))
      go_wp2_with fail
      refine (unhide HCn).mono ?_
      rintro e w7 ⟨rfl, Ew7⟩
      have Hw7 := hide ((unhide Hw1).ext Ew7)
      have HFw7 := hide (Fr.tr (unhide HFw1) (Fr.of_ext Ew7))
      clear HCn Ew7
      try clear s1 s2 s3 s4
      obtain ⟨g', cap', e', s1, s2, s3, s4⟩ := (unhide Hw7).cellOf i j hi (by show j < d.C i; omega)
      rw [unhide HG] at e'
      simp only [Value.slice.injEq, Option.some.injEq, Addr.mk.injEq, and_true] at e'
      rw [← e'.1] at s1 s2 s3 s4
      clear e'
      obtain ⟨w8, hw8⟩ : ∃ V, V = (World.setCell w7 ⟨g, j * 2, none⟩ (.string { data := #[] })).setCell ⟨g, j * 2 + 1, none⟩ (.bool false) := ⟨_, rfl⟩
      have sb := (unhide Hw7).blk1 i j g cap hi (by show j < d.C i; omega) (unhide HG)
      rw [show (World.setCell w7 ⟨g, j * 2, none⟩ (.string bz)).setCell ⟨g, j * 2 + 1, none⟩ (.bool false) = w8 from hw8.symm] at sb
      have Hw8 := hide sb.1
      have HFw8 := hide (Fr.tr (unhide HFw7) sb.2)
      have HVw8 := hide hw8
      clear sb hw8
      go_wp2
      go_end0
      rw [← unhide HVw8]
      have hcl := unhide HCl
      rw [if_neg (c := d.hf i j = true) (by rw [hh]; simp)] at hcl
      rw [if_neg (c := j + 1 < d.C i ∧ d.hf i (j + 1) = true) (fun x => hc2 x.1)] at hcl
      have hfin := unhide Hw8
      rw [hcl] at hfin
      exact ⟨rfl, hfin, unhide HFw8⟩
end
end Go.Proofs.YtinfdhbnljnifaaGreatDoor

namespace Go.Proofs.YtinfdhbnljnifaaGreatDoor
open Go.RowKit
theorem size_bd {d : SD} (h : OkP d) : 2 ≤ d.cols ∧ d.cols ≤ 200 ∧ 1 ≤ d.rows ∧ d.rows ≤ 100 := by
  have := h.size
  unfold sizeB at this
  simp at this
  omega
theorem toBA_ne_nil {xs : List Int} (h : xs ≠ []) : (toBA xs).toList ≠ [] := by
  intro e
  have h1 : (toBA xs).size = 0 := by
    rw [toList_data] at e
    have : (toBA xs).data.size = 0 := by rw [← Array.length_toList, e]; rfl
    exact this
  rw [toBA_size] at h1
  exact h (List.eq_nil_of_length_eq_zero h1)
theorem app_ne_nil {a b : ByteArray} (h : a.toList ≠ []) : (a ++ b).toList ≠ [] := by
  rw [toList_data] at h ⊢
  rw [show (a ++ b).data = a.data ++ b.data from ByteArray.data_append]
  simp at h ⊢
  exact fun e => absurd e h
section
variable (tT : (Nat → ByteArray) → (Nat → Bool) → Nat → ByteArray)
theorem ok_down {d : SD} (h : OkP d) : OkP (d.down tT) := by
  have hs := size_bd h
  unfold SD.down
  by_cases hr : d.row < d.rows - 1
  · rw [if_pos hr]
    exact ⟨h.size, h.R, h.hold, h.C, h.half, ⟨by show 0 ≤ d.row + 1; have := h.row; omega, by show d.row + 1 < d.rows; omega⟩, h.col, fun e => by cases e⟩
  · rw [if_neg hr]
    refine ⟨h.size, h.R, h.hold, fun i hi => ?_, fun i k hi hk hh => ?_, h.row, h.col, fun e => by cases e⟩
    · show ((if i + 1 < d.R then d.C (i + 1) else d.cols.toNat : Nat) : Int) = d.cols
      by_cases e : i + 1 < d.R
      · rw [if_pos e]; exact h.C (i + 1) e
      · rw [if_neg e]; omega
    · have hh2 : (if i + 1 < d.R then d.hf (i + 1) k else false) = true := hh
      by_cases e : i + 1 < d.R
      · rw [if_pos e] at hh2
        have hk2 : k < (if i + 1 < d.R then d.C (i + 1) else d.cols.toNat) := hk
        rw [if_pos e] at hk2
        obtain ⟨e1, e2, e3⟩ := h.half (i + 1) k e hk2 hh2
        refine ⟨?_, e2, ?_⟩
        · show (if i + 1 < d.R then d.tx (i + 1) k else bz).toList = []
          rw [if_pos e]; exact e1
        · show (if i + 1 < d.R then d.tx (i + 1) (k - 1) else bz).toList ≠ []
          rw [if_pos e]; exact e3
      · rw [if_neg e] at hh2; cases hh2
theorem ok_col0 {d : SD} (h : OkP d) : OkP { d with col := 0, late := false } := by
  have hs := size_bd h
  exact ⟨h.size, h.R, h.hold, h.C, h.half, h.row, ⟨Int.le_refl _, by show (0 : Int) < d.cols; omega⟩, fun e => by cases e⟩
theorem down_late (d : SD) : (d.down tT).late = false := by unfold SD.down; split <;> rfl
theorem ok_wrapL {d : SD} (h : OkP d) (w : Int) (hw : w = 1 ∨ w = 2) : OkP (d.wrapL tT w) ∧ (d.wrapL tT w).late = false ∧ (d.wrapL tT w).col + w ≤ (d.wrapL tT w).cols := by
  have hs := size_bd h
  unfold SD.wrapL
  by_cases hc : d.late = true ∨ (w = 2 ∧ d.col = d.cols - 1)
  · rw [if_pos hc]
    have h1 := ok_down tT h
    have h2 := size_bd h1
    refine ⟨⟨h1.size, h1.R, h1.hold, h1.C, h1.half, h1.row, ⟨Int.le_refl _, by show (0 : Int) < (d.down tT).cols; omega⟩, fun e => ?_⟩, down_late tT d, ?_⟩
    · have : (d.down tT).late = true := e
      rw [down_late] at this
      cases this
    · show (0 : Int) + w ≤ (d.down tT).cols
      omega
  · rw [if_neg hc]
    have hcol := h.col
    refine ⟨h, by cases e : d.late; rfl; exact absurd (.inl e) hc, ?_⟩
    rcases hw with rfl | rfl
    · omega
    · have : ¬ d.col = d.cols - 1 := fun e => hc (.inr ⟨rfl, e⟩)
      omega
end
theorem ok_idx {d : SD} (h : OkP d) : d.row.toNat < d.R ∧ d.col.toNat < d.C d.row.toNat := by
  have h1 := h.row
  have h2 := h.R
  have hr : d.row.toNat < d.R := by omega
  have h3 := h.C _ hr
  have h4 := h.col
  exact ⟨hr, by omega⟩
theorem ok_put2 {d : SD} (h : OkP d) (t : ByteArray) (ht : t.toList ≠ []) (w : Int) (hw : w = 1 ∨ w = 2) (hc : d.col + w ≤ d.cols) : OkP (d.put2 t w) := by
  obtain ⟨hr, hcl⟩ := ok_idx h
  have hC := h.C _ hr
  have hcol := h.col
  obtain ⟨i, hi⟩ : ∃ i, i = d.row.toNat := ⟨_, rfl⟩
  obtain ⟨a, ha⟩ : ∃ a, a = d.col.toNat := ⟨_, rfl⟩
  obtain ⟨n, hn⟩ : ∃ n, n = w.toNat := ⟨_, rfl⟩
  have hn2 : (n = 1 ∧ w = 1) ∨ (n = 2 ∧ w = 2) := by omega
  have hb : a + n ≤ d.C i := by rw [hi]; omega
  have hcx := ok_clr h i a (a + n) (by rw [hi]; exact hr) (by omega) hb
  have e1 : d.put1 t w = (d.clr i a (a + n)).setT i a t := by unfold SD.put1; rw [← hi, ← ha, ← hn]
  have hcl2 : ∀ q, a ≤ q → q < a + n → (d.clr i a (a + n)).hf i q = false ∧ (d.clr i a (a + n)).tx i q = bz := fun q q1 q2 => by
    have hx : clrB d i a (a + n) q = true := clrB_iff.2 (.inl ⟨q1, q2⟩)
    exact ⟨if_pos ⟨rfl, hx⟩, if_pos ⟨rfl, hx⟩⟩
  have hnx : a + n < d.C i → (d.clr i a (a + n)).hf i (a + n) = false := fun hlt => by
    show (if i = i ∧ clrB d i a (a + n) (a + n) = true then false else d.hf i (a + n)) = false
    by_cases e : d.hf i (a + n) = true
    · rw [if_pos ⟨rfl, clrB_iff.2 (.inr (.inr ⟨rfl, hlt, e⟩))⟩]
    · split
      · rfl
      · simpa using e
  have ok1 : OkP ((d.clr i a (a + n)).setT i a t) := by
    refine ⟨hcx.size, hcx.R, hcx.hold, hcx.C, fun p k hp hk hh => ?_, hcx.row, hcx.col, hcx.late⟩
    obtain ⟨q1, q2, q3⟩ := hcx.half p k hp hk hh
    refine ⟨?_, q2, ?_⟩
    · show (if p = i ∧ k = a then t else (d.clr i a (a + n)).tx p k).toList = []
      rw [if_neg]
      · exact q1
      · rintro ⟨rfl, rfl⟩
        have := (hcl2 k (Nat.le_refl _) (by omega)).1
        rw [show ((d.clr p k (k + n)).setT p k t).hf p k = (d.clr p k (k + n)).hf p k from rfl, this] at hh
        cases hh
    · show (if p = i ∧ k - 1 = a then t else (d.clr i a (a + n)).tx p (k - 1)).toList ≠ []
      split
      · exact ht
      · exact q3
  unfold SD.put2
  rw [e1, ← hi, ← ha]
  by_cases h2 : w = 2
  · rw [if_pos h2]
    have hn3 : n = 2 := by omega
    subst hn3
    refine ⟨ok1.size, ok1.R, ok1.hold, ok1.C, fun p k hp hk hh => ?_, ok1.row, ok1.col, ok1.late⟩
    have hh2 : (if p = i ∧ k = a + 1 then true else (d.clr i a (a + 2)).hf p k) = true := hh
    by_cases e : p = i ∧ k = a + 1
    · obtain ⟨rfl, rfl⟩ := e
      refine ⟨?_, by omega, ?_⟩
      · show (if p = p ∧ a + 1 = a then t else (d.clr p a (a + 2)).tx p (a + 1)).toList = []
        rw [if_neg (by omega), (hcl2 (a + 1) (by omega) (by omega)).2]
        exact bz_nil
      · show (if p = p ∧ a + 1 - 1 = a then t else (d.clr p a (a + 2)).tx p (a + 1 - 1)).toList ≠ []
        rw [if_pos ⟨rfl, by omega⟩]
        exact ht
    · rw [if_neg e] at hh2
      exact ok1.half p k hp hk hh2
  · rw [if_neg h2]
    exact ok1
theorem put2_rest (d : SD) (t : ByteArray) (w : Int) : (d.put2 t w).cols = d.cols ∧ (d.put2 t w).col = d.col ∧ (d.put2 t w).late = d.late ∧ (d.put2 t w).row = d.row ∧ (d.put2 t w).rows = d.rows := by
  unfold SD.put2
  split <;> exact ⟨rfl, rfl, rfl, rfl, rfl⟩
theorem ok_put3 {d : SD} (h : OkP d) (hlate : d.late = false) (t : ByteArray) (ht : t.toList ≠ []) (w : Int) (hw : w = 1 ∨ w = 2) (hc : d.col + w ≤ d.cols) : OkP (d.put3 t w) := by
  have h2 := ok_put2 h t ht w hw hc
  obtain ⟨r1, r2, r3, r4, r5⟩ := put2_rest d t w
  have hs := size_bd h
  have hcol := h.col
  unfold SD.put3
  split
  · refine ⟨by show sizeB (d.put2 t w).cols (d.put2 t w).rows = true; exact h2.size, h2.R, h2.hold, h2.C, h2.half, h2.row, ⟨by show (0 : Int) ≤ d.cols - 1; omega, by show d.cols - 1 < (d.put2 t w).cols; omega⟩, fun _ => by show d.cols - 1 = (d.put2 t w).cols - 1; omega⟩
  · refine ⟨h2.size, h2.R, h2.hold, h2.C, h2.half, h2.row, ⟨by show (0 : Int) ≤ d.col + w; omega, by show d.col + w < (d.put2 t w).cols; omega⟩, fun e => ?_⟩
    have : (d.put2 t w).late = true := e
    rw [r3, hlate] at this
    cases this
theorem ok_put (tT : (Nat → ByteArray) → (Nat → Bool) → Nat → ByteArray) {d : SD} (h : OkP d) (t : ByteArray) (ht : t.toList ≠ []) (w : Int) (hw : w = 1 ∨ w = 2) : OkP (d.put tT t w) := by
  obtain ⟨h1, h2, h3⟩ := ok_wrapL tT h w hw
  exact ok_put3 h1 h2 t ht w hw h3
theorem ok_mark {d : SD} (h : OkP d) (t : ByteArray) : OkP (d.mark t) := by
  unfold SD.mark
  split
  · exact h
  · split
    · rename_i hx
      refine ⟨h.size, h.R, h.hold, h.C, fun p k hp hk hh => ?_, h.row, h.col, h.late⟩
      obtain ⟨q1, q2, q3⟩ := h.half p k hp hk hh
      refine ⟨?_, q2, ?_⟩
      · show (if p = d.row.toNat ∧ k = d.mkAt2 then _ else d.tx p k).toList = []
        rw [if_neg]
        · exact q1
        · rintro ⟨rfl, rfl⟩
          exact hx.1 q1
      · show (if p = d.row.toNat ∧ k - 1 = d.mkAt2 then d.tx d.row.toNat d.mkAt2 ++ t else d.tx p (k - 1)).toList ≠ []
        split
        · exact app_ne_nil hx.1
        · exact q3
    · exact h
theorem ok_moveTo {d : SD} (h : OkP d) (r c : Int) : OkP (d.moveTo r c) := by
  have hs := size_bd h
  have i1 : 0 ≤ into r (d.rows - 1) ∧ into r (d.rows - 1) < d.rows := by unfold into; (repeat' split) <;> omega
  have i2 : 0 ≤ into c (d.cols - 1) ∧ into c (d.cols - 1) < d.cols := by unfold into; (repeat' split) <;> omega
  exact ⟨h.size, h.R, h.hold, h.C, h.half, i1, i2, fun e => by cases e⟩
theorem ok_clrRows {d : SD} (h : OkP d) (i : Nat) : OkP (d.clrRows i) := by
  refine ⟨h.size, h.R, h.hold, h.C, fun p k hp hk hh => ?_, h.row, h.col, h.late⟩
  have hh2 : (if i ≤ p then false else d.hf p k) = true := hh
  by_cases e : i ≤ p
  · rw [if_pos e] at hh2; cases hh2
  · rw [if_neg e] at hh2
    obtain ⟨q1, q2, q3⟩ := h.half p k hp hk hh2
    refine ⟨?_, q2, ?_⟩
    · show (if i ≤ p then bz else d.tx p k).toList = []
      rw [if_neg e]; exact q1
    · show (if i ≤ p then bz else d.tx p (k - 1)).toList ≠ []
      rw [if_neg e]; exact q3
theorem wid_three (r : Int) : wid r = 0 ∨ wid r = 1 ∨ wid r = 2 := by
  unfold wid
  (repeat' split) <;> omega
theorem encR_ne (r : Int) : encR r ≠ [] := by
  unfold encR
  split
  · unfold encL
    (repeat' split) <;> simp
  · simp
theorem ok_shw (tT : (Nat → ByteArray) → (Nat → Bool) → Nat → ByteArray) {d : SD} (h : OkP d) (r : Int) : OkP (d.shw tT r) := by
  unfold SD.shw
  split
  · exact ok_col0 h
  · split
    · exact ok_down tT h
    · split
      · exact h
      · split
        · exact ok_mark h _
        · rename_i hw
          exact ok_put tT h _ (toBA_ne_nil (encR_ne r)) _ ((wid_three r).resolve_left hw)
theorem ok_oby {d : SD} (h : OkP d) (bs : List Int) (last : Int) : OkP (d.oby bs last) := by
  obtain ⟨hr, hc⟩ := ok_idx h
  have hC := h.C _ hr
  have hc1 : OkP (d.clr d.row.toNat d.col.toNat d.cols.toNat) := ok_clr h _ _ _ hr (by have := h.col; omega) (by omega)
  unfold SD.oby
  (repeat' split)
  all_goals first | exact h | exact hc1 | exact ok_clrRows hc1 _ | exact ok_moveTo h _ _
theorem ok_act (tT : (Nat → ByteArray) → (Nat → Bool) → Nat → ByteArray) {d : SD} (h : OkP d) (a : FAct) : OkP (d.act tT a) := by
  cases a with
  | inl r => exact ok_shw tT h r
  | inr x => obtain ⟨bs, last⟩ := x; exact ok_oby h bs last
theorem ok_acts (tT : (Nat → ByteArray) → (Nat → Bool) → Nat → ByteArray) : ∀ (l : List FAct) {d : SD}, OkP d → OkP (d.acts tT l)
  | [], _, h => h
  | a :: l, _, h => ok_acts tT l (ok_act tT h a)
theorem acts_app (tT : (Nat → ByteArray) → (Nat → Bool) → Nat → ByteArray) (d : SD) (l m : List FAct) : d.acts tT (l ++ m) = (d.acts tT l).acts tT m := by unfold SD.acts; rw [List.foldl_append]
end Go.Proofs.YtinfdhbnljnifaaGreatDoor

namespace Go.Proofs.YtinfdhbnljnifaaGreatDoor
open Go.RowKit
section
variable {F base : Nat} {X : Nat → Prop} {d : SD} {gv : Value} {rv : Nat → Value} {hv bv : Value}
theorem ScrW.texts {w : World} (h : ScrW w F base X d gv rv hv bv) (tx : Nat → Nat → ByteArray) (hf : Nat → Nat → Bool) (e : ∀ i j, i < d.R → j < d.C i → d.tx i j = tx i j ∧ d.hf i j = hf i j) : ScrW w F base X { d with tx := tx, hf := hf } gv rv hv bv :=
  ⟨h.box, h.grid, fun i hi => (h.row i hi).congr (fun j hj => by have := e i j hi hj; show Value.string (d.tx i j) = Value.string (tx i j) ∧ Value.bool (d.hf i j) = Value.bool (hf i j); rw [this.1, this.2]; exact ⟨rfl, rfl⟩), h.apart, h.back, h.below, h.top, h.kept⟩
theorem ScrW.rowFr {w w' : World} (h : ScrW w F base X d gv rv hv bv) (i : Nat) (hi : i < d.R) (hf : Fr (fun k => (rv i).ownBlock = some k) w w') : FrW F base X w w' :=
  hf.mono (fun k hk => .inr ⟨((h.row i hi).lt k hk).1, fun hx => (h.kept k hx).2 (.inr (.inl ⟨i, hi, hk⟩))⟩)
theorem ScrW.moved {w : World} (h : ScrW w F base X d gv rv hv bv) (R C r c : Int) (eR : R = into r (d.rows - 1)) (eC : C = into c (d.cols - 1)) : ScrW (((w.setCell ⟨F, 3, none⟩ (.int .i64 R)).setCell ⟨F, 4, none⟩ (.int .i64 C)).setCell ⟨F, 5, none⟩ (.bool false)) F base X (d.moveTo r c) gv rv hv bv ∧ FrW F base X w (((w.setCell ⟨F, 3, none⟩ (.int .i64 R)).setCell ⟨F, 4, none⟩ (.int .i64 C)).setCell ⟨F, 5, none⟩ (.bool false)) := by
  subst eR
  subst eC
  have fs : Fr (fun k => k = F) w (((w.setCell ⟨F, 3, none⟩ (.int .i64 (into r (d.rows - 1)))).setCell ⟨F, 4, none⟩ (.int .i64 (into c (d.cols - 1)))).setCell ⟨F, 5, none⟩ (.bool false)) :=
    Fr.setCell (S := fun k => k = F) (Fr.setCell (S := fun k => k = F) (Fr.setCell (S := fun k => k = F) (Fr.refl _ w) (a := ⟨F, 3, none⟩) rfl _) (a := ⟨F, 4, none⟩) rfl _) (a := ⟨F, 5, none⟩) rfl _
  exact ⟨h.head fs (into r (d.rows - 1)) (into c (d.cols - 1)) false (set_blk2 (set_blk2 (set_blk2 h.box rfl) rfl) rfl), Fr.mono fs (fun k hk => .inl hk)⟩
set_option maxHeartbeats 2000000 in
theorem moveTo_any (w : World) (h : ScrW w F base X d gv rv hv bv) (hk : OkP d) (r c : Int) :
    Calls Tryz.prog 108 #[.pointer (some ⟨F, 0, none⟩), .int .i64 r, .int .i64 c] w fun e w' => e = .returned (.tuple #[]) ∧ ScrW w' F base X (d.moveTo r c) gv rv hv bv ∧ FrW F base X w w' := by
  have hs := size_bd hk
  have c0 := cells_of h.box 0 _ rfl
  have c1 := cells_of h.box 1 _ rfl
  have c3 := cells_of h.box 3 _ rfl
  have c4 := cells_of h.box 4 _ rfl
  have c5 := cells_of h.box 5 _ rfl
  have f3 : w.frozen? ⟨F, 3, none⟩ = false := Lib.frozen_of_heap h.box 3
  have f4 : w.frozen? ⟨F, 4, none⟩ = false := Lib.frozen_of_heap h.box 4
  have f5 : w.frozen? ⟨F, 5, none⟩ = false := Lib.frozen_of_heap h.box 5
  have w1 : IntKind.i64.wrap (d.rows - 1) = d.rows - 1 := by rw [IntKind.wrap_i64] <;> omega
  have w2 : IntKind.i64.wrap (d.cols - 1) = d.cols - 1 := by rw [IntKind.wrap_i64] <;> omega
  have H := hide h
  clear h hk
  go_enter Tryz.func108, Tryz.ntmps108
  go_wp2
  all_goals first
    | (exfalso; omega)
    | (go_end0; exact ⟨rfl, (unhide H).moved _ _ r c (by unfold into; (repeat' split) <;> omega) (by unfold into; (repeat' split) <;> omega)⟩)
def SD.clrTo (d : SD) (i j k : Nat) : SD := if k = j then d else d.clr i j k
theorem clrTo_snoc (d : SD) (i j k : Nat) (hj : j ≤ k) (hk : k < d.C i) : (d.clrTo i j k).clr i k (k + 1) = d.clrTo i j (k + 1) := by
  unfold SD.clrTo
  rw [if_neg (show ¬ k + 1 = j by omega)]
  by_cases e : k = j
  · subst e; rw [if_pos rfl]
  · rw [if_neg e]; exact clr_snoc d i j k (by omega) hk
theorem clrTo_rest (d : SD) (i j k : Nat) : (d.clrTo i j k).R = d.R ∧ (d.clrTo i j k).C = d.C ∧ (d.clrTo i j k).cols = d.cols := by
  unfold SD.clrTo
  split <;> exact ⟨rfl, rfl, rfl⟩
set_option maxHeartbeats 2000000 in
theorem blankFrom_any (w : World) (h : ScrW w F base X d gv rv hv bv) (i j : Nat) (hi : i < d.R) (hj : j < d.C i) (hC : (d.C i : Int) = d.cols) (h0 : d.hf i j = true → 0 < j) (hC2 : d.C i ≤ 200) :
    Calls Tryz.prog 109 #[.pointer (some ⟨F, 0, none⟩), .int .i64 (i : Int), .int .i64 (j : Int)] w fun e w' => e = .returned (.tuple #[]) ∧ ScrW w' F base X (d.clr i j d.cols.toNat) gv rv hv bv ∧ Fr (fun k => (rv i).ownBlock = some k) w w' := by
  have H0 : Hid (ScrW w F base X (d.clrTo i j j) gv rv hv bv) := hide (by unfold SD.clrTo; rw [if_pos rfl]; exact h)
  clear h
  have H00 := hide h0
  clear h0
  go_enter Tryz.func109, Tryz.ntmps109
  go_wp2_with fail
  go_loopw [2] (fun v wr => ∃ k : Nat, j ≤ k ∧ k ≤ d.C i ∧ v = .int .i64 k ∧ Hid (ScrW wr F base X (d.clrTo i j k) gv rv hv bv) ∧ Hid (Fr (fun q => (rv i).ownBlock = some q) w wr)) (fun v _ => d.C i - (intOf v).toNat)
  case atStart => exact ⟨j, Nat.le_refl _, by omega, rfl, H0, hide (Fr.refl _ _)⟩
  case round =>
    obtain ⟨k, hk1, hk2, rfl, HK, HF⟩ := hrel
    obtain ⟨q1, q2, q3⟩ := clrTo_rest d i j k
    have c0 := cells_of (unhide HK).box 0 _ rfl
    rw [q3] at c0
    by_cases hlt : k < d.C i
    · have b1 : (k : Int) < d.cols := by omega
      have hcall := blank_any wr (unhide HK) i k (by rw [q1]; exact hi) (by rw [q2]; exact hlt) (by rw [q2, q3]; exact hC) (fun hh => by
        rcases Nat.lt_or_ge j k with l | l
        · omega
        · obtain rfl : k = j := by omega
          unfold SD.clrTo at hh
          rw [if_pos rfl] at hh
          exact (unhide H00) hh) (by rw [q2]; exact hC2)
      rw [clrTo_snoc d i j k hk1 hlt] at hcall
      have HCall := hide hcall
      clear hcall q1 q2 q3
      go_wp2_with fail
      refine (unhide HCall).mono ?_
      rintro e w' ⟨rfl, hS, hF⟩
      have HS := hide hS
      have HF2 := hide (Fr.tr (unhide HF) hF)
      clear hS hF HCall HK HF c0
      go_wp2
      go_roundw
      case rel => exact ⟨k + 1, by omega, by omega, by go_num, HS, HF2⟩
      case measure => simp [intOf]; omega
    · obtain rfl : k = d.C i := by omega
      have b1 : ¬ ((d.C i : Nat) : Int) < d.cols := by omega
      go_wp2
      go_end0
      refine ⟨rfl, ?_, unhide HF⟩
      have := unhide HK
      unfold SD.clrTo at this
      rw [if_neg (by omega)] at this
      rw [show d.cols.toNat = d.C i by omega]
      exact this
def SD.clrUp (d : SD) (i k : Nat) : SD := { d with tx := fun p q => if i ≤ p ∧ p < k then bz else d.tx p q, hf := fun p q => if i ≤ p ∧ p < k then false else d.hf p q }
theorem ScrW.clrUp_next {w : World} {i k n : Nat} (h : ScrW w F base X ((d.clrUp i k).clr k 0 n) gv rv hv bv) (hik : i ≤ k) (hn : d.C k = n) : ScrW w F base X (d.clrUp i (k + 1)) gv rv hv bv := by
  refine h.texts (d.clrUp i (k + 1)).tx (d.clrUp i (k + 1)).hf (fun p q hp hq => ?_)
  have hq2 : q < d.C p := hq
  show (if p = k ∧ clrB (d.clrUp i k) k 0 n q = true then bz else if i ≤ p ∧ p < k then bz else d.tx p q) = (if i ≤ p ∧ p < k + 1 then bz else d.tx p q) ∧ (if p = k ∧ clrB (d.clrUp i k) k 0 n q = true then false else if i ≤ p ∧ p < k then false else d.hf p q) = (if i ≤ p ∧ p < k + 1 then false else d.hf p q)
  constructor
  · by_cases e : p = k
    · subst e
      rw [if_pos (c := p = p ∧ clrB (d.clrUp i p) p 0 n q = true) ⟨rfl, clrB_iff.2 (.inl ⟨Nat.zero_le _, by omega⟩)⟩, if_pos (c := i ≤ p ∧ p < p + 1) ⟨hik, by omega⟩]
    · rw [if_neg (c := p = k ∧ clrB (d.clrUp i k) k 0 n q = true) (fun x => e x.1)]
      by_cases e2 : i ≤ p ∧ p < k
      · rw [if_pos e2, if_pos ⟨e2.1, by omega⟩]
      · rw [if_neg e2, if_neg (by omega)]
  · by_cases e : p = k
    · subst e
      rw [if_pos (c := p = p ∧ clrB (d.clrUp i p) p 0 n q = true) ⟨rfl, clrB_iff.2 (.inl ⟨Nat.zero_le _, by omega⟩)⟩, if_pos (c := i ≤ p ∧ p < p + 1) ⟨hik, by omega⟩]
    · rw [if_neg (c := p = k ∧ clrB (d.clrUp i k) k 0 n q = true) (fun x => e x.1)]
      by_cases e2 : i ≤ p ∧ p < k
      · rw [if_pos e2, if_pos ⟨e2.1, by omega⟩]
      · rw [if_neg e2, if_neg (by omega)]
set_option maxHeartbeats 4000000 in
theorem blankBelow_any (w : World) (h : ScrW w F base X d gv rv hv bv) (hk : OkP d) :
    Calls Tryz.prog 110 #[.pointer (some ⟨F, 0, none⟩)] w fun e w' => e = .returned (.tuple #[]) ∧ ScrW w' F base X ((d.clr d.row.toNat d.col.toNat d.cols.toNat).clrRows (d.row.toNat + 1)) gv rv hv bv ∧ FrW F base X w w' := by
  have hs := size_bd hk
  have hr := hk.row
  have hc := hk.col
  have hR := hk.R
  obtain ⟨r, er⟩ : ∃ r : Nat, d.row = r := ⟨d.row.toNat, by omega⟩
  obtain ⟨c, ec⟩ : ∃ c : Nat, d.col = c := ⟨d.col.toNat, by omega⟩
  have c3 := cells_of h.box 3 _ rfl
  have c4 := cells_of h.box 4 _ rfl
  rw [er] at c3
  rw [ec] at c4
  rw [er, ec, Int.toNat_natCast, Int.toNat_natCast]
  have hrR : r < d.R := by omega
  have hCr := hk.C r hrR
  have hcall := fun W (hW : Ext w W) => blankFrom_any W (h.ext hW) r c hrR (by omega) hCr (fun e => (hk.half r c hrR (by omega) e).2.1) (by omega)
  have HCall := hide hcall
  have HH := hide h
  have HK := hide hk
  clear hcall h
  go_enter Tryz.func110, Tryz.ntmps110
  go_wp2_with fail
  go_region_held3 (fun W => W.cell? ⟨F, 3, none⟩ = some (.int .i64 r) ∧ W.cell? ⟨F, 4, none⟩ = some (.int .i64 c)) (first | exact ⟨c3, c4⟩ | exact ⟨e3, e4⟩) (first
    | (go_at_call 109; refine ((unhide HCall) _ (Ext.refl w).drew).mono ?_; rintro e w1 ⟨rfl, h1, f1⟩; have e3 : w1.cell? ⟨F, 3, none⟩ = some (.int .i64 r) := er ▸ cells_of h1.box 3 _ rfl; have e4 : w1.cell? ⟨F, 4, none⟩ = some (.int .i64 c) := ec ▸ cells_of h1.box 4 _ rfl; have H1 := hide h1; have F1 := hide (Fr.tr (Fr.of_ext (Ext.refl w).drew) f1); clear h1 f1))
  have HF1 := hide ((unhide HH).rowFr r hrR (unhide F1))
  have HS1 : Hid (ScrW w1 F base X ((d.clr r c d.cols.toNat).clrUp (r + 1) (r + 1)) gv rv hv bv) := hide ((unhide H1).texts _ _ (fun p q _ _ => by
    show _ = (if r + 1 ≤ p ∧ p < r + 1 then bz else (d.clr r c d.cols.toNat).tx p q) ∧ _ = (if r + 1 ≤ p ∧ p < r + 1 then false else (d.clr r c d.cols.toNat).hf p q)
    rw [if_neg (by omega), if_neg (by omega)]
    exact ⟨rfl, rfl⟩))
  have wr1 : IntKind.i64.wrap ((r : Int) + 1) = (r : Int) + 1 := by rw [IntKind.wrap_i64] <;> omega
  clear H1 F1 HCall HH c3 c4
  go_wp2_with fail
  go_loopw [2] (fun v wr => ∃ k : Nat, r + 1 ≤ k ∧ k ≤ d.R ∧ v = .int .i64 k ∧ Hid (ScrW wr F base X ((d.clr r c d.cols.toNat).clrUp (r + 1) k) gv rv hv bv) ∧ Hid (FrW F base X w wr)) (fun v _ => d.R - (intOf v).toNat)
  case atStart => exact ⟨r + 1, Nat.le_refl _, by omega, by simp, HS1, HF1⟩
  case round =>
    clear HS1 HF1 e3
    obtain ⟨k, hk1, hk2, rfl, HSk, HFk⟩ := hrel
    have g1 := cells_of (unhide HSk).box 1 _ rfl
    rw [show ((d.clr r c d.cols.toNat).clrUp (r + 1) k).rows = d.rows from rfl] at g1
    by_cases hlt : k < d.R
    · have b1 : (k : Int) < d.rows := by omega
      have hCk := (unhide HK).C k hlt
      have hcall := blankFrom_any wr (unhide HSk) k 0 hlt (by show 0 < d.C k; omega) hCk (fun e => by
        have e2 : (if r + 1 ≤ k ∧ k < k then false else if k = r ∧ clrB d r c d.cols.toNat 0 = true then false else d.hf k 0) = true := e
        rw [if_neg (by omega), if_neg (by omega)] at e2
        exact ((unhide HK).half k 0 hlt (by omega) e2).2.1) (by show d.C k ≤ 200; omega)
      have HCall := hide hcall
      clear hcall
      go_wp2_with fail
      refine (unhide HCall).mono ?_
      rintro e w2 ⟨rfl, h2, f2⟩
      have HF2 := hide (Fr.tr (unhide HFk) ((unhide HSk).rowFr k hlt f2))
      have HS2 := hide (h2.clrUp_next hk1 (by show d.C k = d.cols.toNat; omega))
      clear h2 f2 HCall HSk HFk g1
      go_wp2
      go_roundw
      case rel => exact ⟨k + 1, by omega, by omega, by go_num, HS2, HF2⟩
      case measure => simp [intOf]; omega
    · obtain rfl : k = d.R := by omega
      have b1 : ¬ ((d.R : Nat) : Int) < d.rows := by omega
      go_wp2
      go_end0
      refine ⟨rfl, ?_, unhide HFk⟩
      refine (unhide HSk).texts _ _ (fun p q hp _ => ?_)
      have hp2 : p < d.R := hp
      show (if r + 1 ≤ p ∧ p < d.R then bz else (d.clr r c d.cols.toNat).tx p q) = (if r + 1 ≤ p then bz else (d.clr r c d.cols.toNat).tx p q) ∧ (if r + 1 ≤ p ∧ p < d.R then false else (d.clr r c d.cols.toNat).hf p q) = (if r + 1 ≤ p then false else (d.clr r c d.cols.toNat).hf p q)
      by_cases e : r + 1 ≤ p
      · rw [if_pos ⟨e, hp2⟩, if_pos e, if_pos ⟨e, hp2⟩, if_pos e]
        exact ⟨rfl, rfl⟩
      · rw [if_neg (fun x => e x.1), if_neg e, if_neg (fun x => e x.1), if_neg e]
        exact ⟨rfl, rfl⟩
end
end Go.Proofs.YtinfdhbnljnifaaGreatDoor

namespace Go.Proofs.YtinfdhbnljnifaaGreatDoor
open Go.RowKit
theorem encode_is (r : Int) : Utf8.encode r = toBA (encR r) := by
  have key : ∀ c : Nat, (if c < 0x80 then (⟨#[UInt8.ofNat c]⟩ : ByteArray) else if c < 0x800 then ⟨#[UInt8.ofNat (0xC0 + c / 64), UInt8.ofNat (0x80 + c % 64)]⟩ else if c < 0x10000 then ⟨#[UInt8.ofNat (0xE0 + c / 4096), UInt8.ofNat (0x80 + c / 64 % 64), UInt8.ofNat (0x80 + c % 64)]⟩ else ⟨#[UInt8.ofNat (0xF0 + c / 262144), UInt8.ofNat (0x80 + c / 4096 % 64), UInt8.ofNat (0x80 + c / 64 % 64), UInt8.ofNat (0x80 + c % 64)]⟩) = toBA (encL (c : Int)) := by
    intro c
    unfold encL
    by_cases h1 : c < 128
    · rw [if_pos h1, if_pos (show (c : Int) < 128 by omega)]
      rfl
    · rw [if_neg h1, if_neg (show ¬ (c : Int) < 128 by omega)]
      by_cases h2 : c < 2048
      · rw [if_pos h2, if_pos (show (c : Int) < 2048 by omega)]
        unfold toBA
        simp only [List.foldl]
        rw [show ((192 : Int) + c / 64).toNat = 192 + c / 64 by omega, show ((128 : Int) + c % 64).toNat = 128 + c % 64 by omega]
        rfl
      · rw [if_neg h2, if_neg (show ¬ (c : Int) < 2048 by omega)]
        by_cases h3 : c < 65536
        · rw [if_pos h3, if_pos (show (c : Int) < 65536 by omega)]
          unfold toBA
          simp only [List.foldl]
          rw [show ((224 : Int) + c / 4096).toNat = 224 + c / 4096 by omega, show ((128 : Int) + c / 64 % 64).toNat = 128 + c / 64 % 64 by omega, show ((128 : Int) + c % 64).toNat = 128 + c % 64 by omega]
          rfl
        · rw [if_neg h3, if_neg (show ¬ (c : Int) < 65536 by omega)]
          unfold toBA
          simp only [List.foldl]
          rw [show ((240 : Int) + c / 262144).toNat = 240 + c / 262144 by omega, show ((128 : Int) + c / 4096 % 64).toNat = 128 + c / 4096 % 64 by omega, show ((128 : Int) + c / 64 % 64).toNat = 128 + c / 64 % 64 by omega, show ((128 : Int) + c % 64).toNat = 128 + c % 64 by omega]
          rfl
  unfold Utf8.encode encR
  by_cases hv : Utf8.valid r = true
  · have h0 : 0 ≤ r := by
      unfold Utf8.valid at hv
      simp at hv
      omega
    rw [if_pos hv, if_pos hv]
    have := key r.toNat
    rw [Int.toNat_of_nonneg h0] at this
    exact this
  · rw [if_neg hv, if_neg hv]
    rfl
end Go.Proofs.YtinfdhbnljnifaaGreatDoor

namespace Go.Proofs.YtinfdhbnljnifaaGreatDoor
open Go.RowKit
theorem rsz_mono (f g : Nat → ByteArray) (h : ∀ q, (f q).size ≤ (g q).size) : ∀ n, rsz f n ≤ rsz g n
  | 0 => Nat.le_refl _
  | n + 1 => by
    have := rsz_mono f g h n
    have := h n
    rw [rsz, rsz]
    omega
theorem rsz_ext (f g : Nat → ByteArray) : ∀ n, (∀ q, q < n → f q = g q) → rsz f n = rsz g n
  | 0, _ => rfl
  | n + 1, h => by rw [rsz, rsz, rsz_ext f g n (fun q hq => h q (by omega)), h n (by omega)]
theorem rsz_set (f : Nat → ByteArray) (j : Nat) (t : ByteArray) (m : Nat) (ht : t.size ≤ (f j).size + m) : ∀ n, rsz (fun q => if q = j then t else f q) n ≤ rsz f n + m
  | 0 => Nat.zero_le _
  | n + 1 => by
    have ih := rsz_set f j t m ht n
    rw [rsz, rsz]
    by_cases e : n = j
    · subst e
      rw [if_pos rfl]
      have : rsz (fun q => if q = n then t else f q) n = rsz f n := rsz_ext _ _ n (fun q hq => if_neg (by omega))
      omega
    · rw [if_neg e]
      omega
theorem rsz_bz : ∀ n, rsz (fun _ => bz) n = n
  | 0 => rfl
  | n + 1 => by rw [rsz, rsz_bz n]; rfl
def WtB (d : SD) (M : Nat) : Prop := ∀ i, i < d.R → rsz (d.tx i) (d.C i) ≤ M
theorem WtB.mono {d : SD} {M M' : Nat} (h : WtB d M) (hM : M ≤ M') : WtB d M' := fun i hi => Nat.le_trans (h i hi) hM
theorem wt_clr {d : SD} {M : Nat} (h : WtB d M) (i a b : Nat) : WtB (d.clr i a b) M := fun p hp => by
  refine Nat.le_trans (rsz_mono _ (d.tx p) (fun q => ?_) _) (h p hp)
  show (if p = i ∧ clrB d i a b q = true then bz else d.tx p q).size ≤ _
  split
  · exact Nat.zero_le _
  · exact Nat.le_refl _
theorem wt_setT {d : SD} {M m : Nat} (h : WtB d M) (i j : Nat) (t : ByteArray) (ht : t.size ≤ (d.tx i j).size + m) : WtB (d.setT i j t) (M + m) := fun p hp => by
  by_cases e : p = i
  · subst e
    have h1 := rsz_set (d.tx p) j t m ht (d.C p)
    have h2 := h p hp
    have h3 : rsz ((d.setT p j t).tx p) (d.C p) = rsz (fun q => if q = j then t else d.tx p q) (d.C p) := rsz_ext _ _ _ (fun q _ => by
      show (if p = p ∧ q = j then t else d.tx p q) = _
      by_cases e : q = j
      · rw [if_pos ⟨rfl, e⟩, if_pos e]
      · rw [if_neg (fun h => e h.2), if_neg e])
    show rsz ((d.setT p j t).tx p) (d.C p) ≤ _
    omega
  · have h3 : rsz ((d.setT i j t).tx p) (d.C p) = rsz (d.tx p) (d.C p) := rsz_ext _ _ _ (fun q _ => by
      show (if p = i ∧ q = j then t else d.tx p q) = _
      rw [if_neg (fun h => e h.1)])
    show rsz ((d.setT i j t).tx p) (d.C p) ≤ _
    have := h p hp
    omega
section
variable (tT : (Nat → ByteArray) → (Nat → Bool) → Nat → ByteArray)
theorem wt_down {d : SD} {M : Nat} (hk : OkP d) (h : WtB d M) (hM : 200 ≤ M) : WtB (d.down tT) M := by
  have hs := size_bd hk
  unfold SD.down
  split
  · exact h
  · intro p hp
    have hp2 : p < d.R := hp
    show rsz (fun q => if p + 1 < d.R then d.tx (p + 1) q else bz) (if p + 1 < d.R then d.C (p + 1) else d.cols.toNat) ≤ M
    by_cases e : p + 1 < d.R
    · rw [if_pos e, rsz_ext _ (d.tx (p + 1)) _ (fun q _ => if_pos e)]
      exact h (p + 1) e
    · rw [if_neg e, rsz_ext _ (fun _ => bz) _ (fun q _ => if_neg e), rsz_bz]
      omega
theorem wt_put {d : SD} {M : Nat} (hk : OkP d) (h : WtB d M) (hM : 200 ≤ M) (t : ByteArray) (w : Int) : WtB (d.put tT t w) (M + t.size) := by
  have h1 : WtB (d.wrapL tT w) M := by
    unfold SD.wrapL
    split
    · exact wt_down tT hk h hM
    · exact h
  have h2 : WtB ((d.wrapL tT w).put1 t w) (M + t.size) := wt_setT (wt_clr h1 _ _ _) _ _ _ (by omega)
  have h3 : WtB ((d.wrapL tT w).put2 t w) (M + t.size) := by
    unfold SD.put2
    split
    · exact h2
    · exact h2
  unfold SD.put SD.put3
  split
  · exact h3
  · exact h3
theorem size_app (a b : ByteArray) : (a ++ b).size = a.size + b.size := ByteArray.size_append
theorem wt_mark {d : SD} {M : Nat} (h : WtB d M) (t : ByteArray) : WtB (d.mark t) (M + t.size) := by
  unfold SD.mark
  split
  · exact h.mono (by omega)
  · split
    · exact wt_setT h _ _ _ (by rw [size_app]; omega)
    · exact h.mono (by omega)
theorem wt_act {d : SD} {M : Nat} (hk : OkP d) (h : WtB d M) (hM : 200 ≤ M) (a : FAct) : WtB (d.act tT a) (M + 4) := by
  cases a with
  | inl r =>
    have he := encR_len r
    have hz : (toBA (encR r)).size ≤ 4 := by rw [toBA_size]; exact he
    show WtB (d.shw tT r) (M + 4)
    unfold SD.shw
    split
    · exact h.mono (by omega)
    · split
      · exact (wt_down tT hk h hM).mono (by omega)
      · split
        · exact h.mono (by omega)
        · split
          · exact (wt_mark h _).mono (by omega)
          · exact (wt_put tT hk h hM _ _).mono (by omega)
  | inr x =>
    obtain ⟨bs, last⟩ := x
    have hc := (wt_clr h d.row.toNat d.col.toNat d.cols.toNat).mono (show M ≤ M + 4 by omega)
    have hr : ∀ (e : SD) (i : Nat), WtB e (M + 4) → WtB (e.clrRows i) (M + 4) := fun e i he p hp => by
      refine Nat.le_trans (rsz_mono _ (e.tx p) (fun q => ?_) _) (he p hp)
      show (if i ≤ p then bz else e.tx p q).size ≤ _
      split
      · exact Nat.zero_le _
      · exact Nat.le_refl _
    show WtB (d.oby bs last) (M + 4)
    unfold SD.oby
    (repeat' split)
    all_goals first | exact h.mono (by omega) | exact hc | exact hr _ _ hc
theorem nb_act (d : SD) (a : FAct) : (d.act tT a).nb ≤ d.nb + 1 := by
  have hd : (d.down tT).nb ≤ d.nb + 1 := by unfold SD.down; split <;> simp
  cases a with
  | inl r =>
    have hw : ∀ w, (d.wrapL tT w).nb ≤ d.nb + 1 := fun w => by
      unfold SD.wrapL
      split
      · exact hd
      · omega
    have hp : ∀ t w, (d.put tT t w).nb = (d.wrapL tT w).nb := fun t w => by
      unfold SD.put SD.put3 SD.put2
      (repeat' split) <;> rfl
    show (d.shw tT r).nb ≤ _
    unfold SD.shw
    split
    · show d.nb ≤ _; omega
    · split
      · exact hd
      · split
        · omega
        · split
          · unfold SD.mark
            split
            · omega
            · split
              · show d.nb ≤ _; omega
              · omega
          · rw [hp]; exact hw _
  | inr x =>
    obtain ⟨bs, last⟩ := x
    show (d.oby bs last).nb ≤ _
    unfold SD.oby
    (repeat' split)
    all_goals (first | omega | (show d.nb ≤ d.nb + 1; omega))
theorem acts_bd : ∀ (l : List FAct) {d : SD} {M : Nat}, OkP d → WtB d M → 200 ≤ M → OkP (d.acts tT l) ∧ WtB (d.acts tT l) (M + 4 * l.length) ∧ (d.acts tT l).nb ≤ d.nb + l.length
  | [], d, M, h1, h2, _ => ⟨h1, h2, Nat.le_refl _⟩
  | a :: l, d, M, h1, h2, h3 => by
    obtain ⟨r1, r2, r3⟩ := acts_bd l (ok_act tT h1 a) (wt_act tT h1 h2 h3 a) (by omega)
    have := nb_act tT d a
    refine ⟨r1, r2.mono (by simp; omega), ?_⟩
    show ((d.act tT a).acts tT l).nb ≤ _
    simp
    omega
end
end Go.Proofs.YtinfdhbnljnifaaGreatDoor

namespace Go.Proofs.YtinfdhbnljnifaaGreatDoor
open Go.RowKit
theorem gR_count {α : Type} {st : List Int → Option (List α × Nat)} (hn : ∀ s ks m, st s = some (ks, m) → 0 < m ∧ m ≤ s.length) (hc : ∀ s ks m, st s = some (ks, m) → ks.length ≤ m) : ∀ (f : Nat) (s : List Int), s.length ≤ f → (gR st s).1.length ≤ (gR st s).2 := by
  intro f
  induction f with
  | zero =>
    intro s hf
    cases hst : st s with
    | none => rw [gR_none hst]; simp
    | some x => have := hn s x.1 x.2 hst; omega
  | succ f ih =>
    intro s hf
    cases hst : st s with
    | none => rw [gR_none hst]; simp
    | some x =>
      obtain ⟨ks, m⟩ := x
      have hm := hn s ks m hst
      have h1 := hc s ks m hst
      rw [gR_some hn hst]
      have hd : (s.drop m).length = s.length - m := by simp
      have := ih (s.drop m) (by omega)
      simp only [List.length_append]
      omega
theorem fdStep_c (s : List Int) (ks : List FAct) (m : Nat) (h : fdStep s = some (ks, m)) : ks.length ≤ m := by
  have hm := fdStep_n s ks m h
  have : ks.length ≤ 1 := by
    unfold fdStep at h
    (repeat' split at h) <;> simp at h <;> first | (rw [h.1]; simp) | (rw [← h.1]; simp)
  omega
theorem fd_count (s : List Int) : (fd s).1.length ≤ s.length := by
  have h1 := gR_count fdStep_n fdStep_c s.length s (Nat.le_refl _)
  have h2 := gR_len fdStep_n s.length s (Nat.le_refl _)
  exact Nat.le_trans h1 h2
theorem fdH_none (s : List Int) : fdStep (fdH s) = none := gR_rest fdStep_n s.length s (Nat.le_refl _)
theorem fdH_le (s : List Int) : (fdH s).length ≤ 32 := by
  rcases fd_shape (fdH_none s) with e | e | ⟨ds, e, _, hl⟩ | ⟨_, _, hf⟩
  · rw [e]; simp
  · rw [e]; simp
  · rw [e]; simp; omega
  · have h1 := ((full_iffB _).1 hf).1
    have h2 : nB (at0 (fdH s) 0) ≤ 4 := by unfold nB; (repeat' split) <;> omega
    omega
section
variable (tT : (Nat → ByteArray) → (Nat → Bool) → Nat → ByteArray)
theorem down_hold (d : SD) (h : List Int) : ({ d with hold := h } : SD).down tT = { d.down tT with hold := h } := by
  unfold SD.down
  by_cases e : d.row < d.rows - 1
  · rw [if_pos e, if_pos e]
  · rw [if_neg e, if_neg e]
theorem wrapL_hold (d : SD) (h : List Int) (w : Int) : ({ d with hold := h } : SD).wrapL tT w = { d.wrapL tT w with hold := h } := by
  unfold SD.wrapL
  by_cases e : d.late = true ∨ (w = 2 ∧ d.col = d.cols - 1)
  · rw [if_pos e, if_pos e, down_hold]
  · rw [if_neg e, if_neg e]
theorem put3_hold (d : SD) (h : List Int) (t : ByteArray) (w : Int) : ({ d with hold := h } : SD).put3 t w = { d.put3 t w with hold := h } := by
  unfold SD.put3 SD.put2
  by_cases e : d.cols ≤ d.col + w
  · rw [if_pos e, if_pos e]
    by_cases e2 : w = 2
    · rw [if_pos e2, if_pos e2]; rfl
    · rw [if_neg e2, if_neg e2]; rfl
  · rw [if_neg e, if_neg e]
    by_cases e2 : w = 2
    · rw [if_pos e2, if_pos e2]; rfl
    · rw [if_neg e2, if_neg e2]; rfl
theorem mark_hold (d : SD) (h : List Int) (t : ByteArray) : ({ d with hold := h } : SD).mark t = { d.mark t with hold := h } := by
  unfold SD.mark
  have e1 : SD.mkAt ({ d with hold := h } : SD) = d.mkAt := rfl
  have e2 : SD.mkAt2 ({ d with hold := h } : SD) = d.mkAt2 := rfl
  rw [e1, e2]
  by_cases e : d.mkAt < 0
  · rw [if_pos e, if_pos e]
  · rw [if_neg e, if_neg e]
    show (if (d.tx d.row.toNat d.mkAt2).toList ≠ [] ∧ (d.tx d.row.toNat d.mkAt2).size ≤ 6000 then _ else _) = _
    by_cases e3 : (d.tx d.row.toNat d.mkAt2).toList ≠ [] ∧ (d.tx d.row.toNat d.mkAt2).size ≤ 6000
    · rw [if_pos e3, if_pos e3]; rfl
    · rw [if_neg e3, if_neg e3]
theorem act_hold (d : SD) (h : List Int) (a : FAct) : ({ d with hold := h } : SD).act tT a = { d.act tT a with hold := h } := by
  cases a with
  | inl r =>
    show ({ d with hold := h } : SD).shw tT r = { d.shw tT r with hold := h }
    unfold SD.shw
    by_cases e1 : r = 13
    · rw [if_pos e1, if_pos e1]
    · rw [if_neg e1, if_neg e1]
      by_cases e2 : r = 10
      · rw [if_pos e2, if_pos e2, down_hold]
      · rw [if_neg e2, if_neg e2]
        by_cases e3 : r < 32 ∨ (127 ≤ r ∧ r ≤ 159)
        · rw [if_pos e3, if_pos e3]
        · rw [if_neg e3, if_neg e3]
          by_cases e4 : wid r = 0
          · rw [if_pos e4, if_pos e4, mark_hold]
          · rw [if_neg e4, if_neg e4]
            unfold SD.put
            rw [wrapL_hold, put3_hold]
  | inr x =>
    obtain ⟨bs, last⟩ := x
    show ({ d with hold := h } : SD).oby bs last = { d.oby bs last with hold := h }
    unfold SD.oby
    (repeat' split) <;> rfl
theorem acts_hold (h : List Int) : ∀ (l : List FAct) (d : SD), ({ d with hold := h } : SD).acts tT l = { d.acts tT l with hold := h }
  | [], d => rfl
  | a :: l, d => by
    show (({ d with hold := h } : SD).act tT a).acts tT l = _
    rw [act_hold, acts_hold h l]
    rfl
def SD.feed (d : SD) (bs : List Int) : SD := { d.acts tT (fd (d.hold ++ bs)).1 with hold := fdH (d.hold ++ bs) }
theorem ok_feed {d : SD} (h : OkP d) (bs : List Int) : OkP (d.feed tT bs) := by
  have h1 := ok_acts tT (fd (d.hold ++ bs)).1 h
  exact ⟨h1.size, h1.R, fdH_le _, h1.C, h1.half, h1.row, h1.col, h1.late⟩
theorem feed_app (d : SD) (x y : List Int) : (d.feed tT x).feed tT y = d.feed tT (x ++ y) := by
  have e := gR_append fdStep_n fdStep_more y (d.hold ++ x).length (d.hold ++ x) (Nat.le_refl _)
  have hl := gR_len fdStep_n (d.hold ++ x).length (d.hold ++ x) (Nat.le_refl _)
  have e2 : fdH (d.hold ++ (x ++ y)) = fdH (fdH (d.hold ++ x) ++ y) := by
    show (d.hold ++ (x ++ y)).drop (gR fdStep (d.hold ++ (x ++ y))).2 = _
    rw [← List.append_assoc, e, ← List.drop_drop, List.drop_append_of_le_length hl]
    rfl
  show ({ ({ d.acts tT (fd (d.hold ++ x)).1 with hold := fdH (d.hold ++ x) } : SD).acts tT (fd (fdH (d.hold ++ x) ++ y)).1 with hold := fdH (fdH (d.hold ++ x) ++ y) } : SD) = { d.acts tT (fd (d.hold ++ (x ++ y))).1 with hold := fdH (d.hold ++ (x ++ y)) }
  rw [acts_hold, e2]
  have e3 : (fd (d.hold ++ (x ++ y))).1 = (fd (d.hold ++ x)).1 ++ (fd (fdH (d.hold ++ x) ++ y)).1 := by
    show (gR fdStep (d.hold ++ (x ++ y))).1 = _
    rw [← List.append_assoc, e]
  rw [e3, acts_app]
end
end Go.Proofs.YtinfdhbnljnifaaGreatDoor
