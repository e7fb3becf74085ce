import Derived.Test.YtinfdhbnljnifaaGreatDoorFsS
import Derived.Test.YtinfdhbnljnifaaGreatDoorKd
import Derived.Test.YtinfdhbnljnifaaGreatDoorSnapMark
import Derived.Test.YtinfdhbnljnifaaGreatDoorU8s
import Derived.Test.YtinfdhbnljnifaaGreatDoorToScr
import Derived.Test.YtinfdhbnljnifaaGreatDoorFsI
namespace Go.Proofs.YtinfdhbnljnifaaGreatDoor
open Go.RowKit
theorem OwnO.notRow {w : World} {base base' : Nat} {T T' : TypeId} {v u : Value} {n m size : Nat} {A : Nat → Value} {xs : List Value} (h : OwnO w base T v n A) (hy : w.ownsRow base' T' size u m xs) (hT : T ≠ T') {g : Nat} (hg : u.ownBlock = some g) : v.ownBlock ≠ some g := by
  intro e
  obtain ⟨g', k', cap', cur, e1, _, hg', _⟩ := h
  rw [e1] at e
  have e2 : g' = g := by simpa [Value.ownBlock] using e
  subst e2
  rcases hy.2 with ⟨e3, _⟩ | ⟨g2, _, cur2, e3, _, hg2, _⟩
  · rw [e3] at hg; simp [Value.ownBlock] at hg
  · rw [e3] at hg
    have e4 : g2 = g' := by simpa [Value.ownBlock] using hg
    subst e4
    rw [hg'] at hg2
    simp at hg2
    exact hT hg2.2
def OwnGF (w : World) (base : Nat) (v : Value) (rv : Nat → Value) (R : Nat) (C : Nat → Nat) (A B : Nat → Nat → Value) : Prop :=
  OwnO w base 81 v R rv ∧ (∀ i, i < R → Own2 w base 83 (rv i) (C i) (A i) (B i)) ∧ (∀ i j g, i < j → j < R → (rv i).ownBlock = some g → (rv j).ownBlock ≠ some g)
section
variable {w w' : World} {base : Nat} {v : Value} {rv : Nat → Value} {R : Nat} {C : Nat → Nat} {A B : Nat → Nat → Value}
theorem OwnGF.ext (h : OwnGF w base v rv R C A B) (he : Ext w w') : OwnGF w' base v rv R C A B := ⟨h.1.ext he, fun i hi => (h.2.1 i hi).ext he, h.2.2⟩
theorem OwnGF.reads (h : OwnGF w base v rv R C A B) : GridAt w v R C A B := ⟨rv, h.1.reads, fun i hi => (h.2.1 i hi).reads⟩
theorem OwnGF.foot (h : OwnGF w base v rv R C A B) {g : Nat} (hg : GFoot v rv R g) : base ≤ g ∧ g < w.heap.size := by
  rcases hg with hg | ⟨i, hi, hg⟩
  · exact h.1.lt g hg
  · exact (h.2.1 i hi).lt g hg
theorem OwnGF.fr {S : Nat → Prop} (h : OwnGF w base v rv R C A B) (hf : Fr S w w') (hS : ∀ g, GFoot v rv R g → ¬ S g) : OwnGF w' base v rv R C A B :=
  ⟨h.1.fr hf (fun g hg => hS g (.inl hg)), fun i hi => (h.2.1 i hi).fr hf (fun g hg => hS g (.inr ⟨i, hi, hg⟩)), h.2.2⟩
theorem OwnGF.apart (h : OwnGF w base v rv R C A B) {i g : Nat} (hi : i < R) (hg : (rv i).ownBlock = some g) : v.ownBlock ≠ some g := by
  obtain ⟨zs, h2, _⟩ := h.2.1 i hi
  exact h.1.notRow h2 (by decide) hg
theorem OwnGF.row {A' B' : Nat → Value} {j : Nat} (h : OwnGF w base v rv R C A B) (hj : j < R) (ho : Own2 w' base 83 (rv j) (C j) A' B') (hf : Fr (fun g => (rv j).ownBlock = some g) w w') :
    OwnGF w' base v rv R C (fun i => if i = j then A' else A i) (fun i => if i = j then B' else B i) := by
  refine ⟨h.1.fr hf (fun g hg e => h.apart hj e hg), fun i hi => ?_, h.2.2⟩
  dsimp only
  by_cases e : i = j
  · subst e; rw [if_pos rfl, if_pos rfl]; exact ho
  · rw [if_neg e, if_neg e]
    refine (h.2.1 i hi).fr hf (fun g hg e2 => ?_)
    rcases Nat.lt_or_gt_of_ne e with h5 | h5
    · exact h.2.2 i j g h5 hj hg e2
    · exact h.2.2 j i g h5 hi e2 hg
theorem OwnGF.congr {A' B' : Nat → Nat → Value} (h : OwnGF w base v rv R C A B) (e : ∀ i, i < R → A i = A' i ∧ B i = B' i) : OwnGF w base v rv R C A' B' :=
  ⟨h.1, fun i hi => by rw [← (e i hi).1, ← (e i hi).2]; exact h.2.1 i hi, h.2.2⟩
end
def OwnFS (w : World) (base : Nat) (d : SD) (gv : Value) (rv : Nat → Value) (hv bv : Value) : Prop :=
  OwnGF w base gv rv d.R d.C (fun i j => .string (d.tx i j)) (fun i j => .bool (d.hf i j)) ∧ w.ownsRow base 5 1 hv d.hold.length (d.hold.map (Value.int .u8)) ∧ Own1 w base 9 bv d.nb (fun j => .string (d.bk j))
section
variable {w w' : World} {base : Nat} {d : SD} {gv : Value} {rv : Nat → Value} {hv bv : Value}
theorem OwnF.toS (h : OwnF w base d gv rv hv bv) : OwnFS w base d gv rv hv bv := ⟨⟨h.grid, h.row, h.apart⟩, h.hold, h.back⟩
theorem OwnFS.ext (h : OwnFS w base d gv rv hv bv) (he : Ext w w') : OwnFS w' base d gv rv hv bv := ⟨h.1.ext he, he.owns h.2.1, h.2.2.ext he⟩
theorem OwnFS.reads (h : OwnFS w base d gv rv hv bv) : ScrAt w d gv hv bv := ⟨h.1.reads, ints_of_owns h.2.1, h.2.2.reads⟩
theorem OwnFS.foot (h : OwnFS w base d gv rv hv bv) {g : Nat} (hg : SFoot d gv rv hv bv g) : base ≤ g ∧ g < w.heap.size := by
  rcases hg with hg | hg | hg
  · exact h.1.foot hg
  · exact h.2.1.lt g hg
  · exact h.2.2.lt g hg
theorem OwnFS.fr {S : Nat → Prop} (h : OwnFS w base d gv rv hv bv) (hf : Fr S w w') (hS : ∀ g, SFoot d gv rv hv bv g → ¬ S g) : OwnFS w' base d gv rv hv bv :=
  ⟨h.1.fr hf (fun g hg => hS g (.inl hg)), hf.owns h.2.1 (fun g hg => hS g (.inr (.inl hg))), h.2.2.fr hf (fun g hg => hS g (.inr (.inr hg)))⟩
theorem OwnFS.kinds (h : OwnFS w base d gv rv hv bv) :
    (∀ g, GFoot gv rv d.R g → hv.ownBlock ≠ some g ∧ bv.ownBlock ≠ some g) ∧ (∀ g, hv.ownBlock = some g → bv.ownBlock ≠ some g) := by
  obtain ⟨⟨a1, a2, _⟩, a3, ⟨zs, a4, _⟩⟩ := h
  refine ⟨fun g hg => ?_, fun g hg => owns_apart a3 a4 (by decide) hg⟩
  rcases hg with hg | ⟨i, hi, hg⟩
  · exact ⟨fun e => a1.notRow a3 (by decide) e hg, fun e => a1.notRow a4 (by decide) e hg⟩
  · obtain ⟨xs, b1, _⟩ := a2 i hi
    exact ⟨owns_apart b1 a3 (by decide) hg, owns_apart b1 a4 (by decide) hg⟩
end
end Go.Proofs.YtinfdhbnljnifaaGreatDoor
