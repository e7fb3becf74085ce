import Derived.Test.YtmomcccgjjjldaaDoorRows12
namespace Go.Proofs.YtmomcccgjjjldaaDoor
open Go.RowKit
def CssAt (w : World) (v : Value) (R : Nat) (cs : Nat → List (List Int × Int)) : Prop :=
  ∃ rv : Nat → Value, Row1At w v R rv ∧ ∀ i, i < R → ClsAt w (rv i) (cs i)
theorem CssAt.ext {w w' : World} {v : Value} {R : Nat} {cs : Nat → List (List Int × Int)} (h : CssAt w v R cs) (he : Ext w w') : CssAt w' v R cs := by
  obtain ⟨rv, h1, h2⟩ := h
  exact ⟨rv, h1.ext he, fun i hi => (h2 i hi).ext he⟩
def OwnCss (w : World) (base : Nat) (v : Value) (rv : Nat → Value) (rs : Nat → List Value) (R : Nat) (cs : Nat → List (List Int × Int)) : Prop :=
  Own1 w base 27 v R rv ∧ (∀ i, i < R → OwnCls w base (rv i) (rs i) (cs i)) ∧ (∀ i j g, i < j → j < R → Foot (rv i) (rs i) (cs i).length g → ¬ Foot (rv j) (rs j) (cs j).length g)
def CFoot (v : Value) (rv : Nat → Value) (rs : Nat → List Value) (R : Nat) (cs : Nat → List (List Int × Int)) (g : Nat) : Prop := v.ownBlock = some g ∨ ∃ i, i < R ∧ Foot (rv i) (rs i) (cs i).length g
section
variable {w w' : World} {base : Nat} {v : Value} {rv : Nat → Value} {rs : Nat → List Value} {R : Nat} {cs : Nat → List (List Int × Int)}
theorem OwnCss.ext (h : OwnCss w base v rv rs R cs) (he : Ext w w') : OwnCss w' base v rv rs R cs := ⟨h.1.ext he, fun i hi => (h.2.1 i hi).ext he, h.2.2⟩
theorem OwnCss.foot (h : OwnCss w base v rv rs R cs) {g : Nat} (hg : CFoot v rv rs R cs g) : base ≤ g ∧ g < w.heap.size := by
  rcases hg with hg | ⟨i, hi, hg⟩
  · exact h.1.lt g hg
  · exact (h.2.1 i hi).foot hg
theorem OwnCss.fr {S : Nat → Prop} (h : OwnCss w base v rv rs R cs) (hf : Fr S w w') (hS : ∀ g, CFoot v rv rs R cs g → ¬ S g) : OwnCss w' base v rv rs R cs :=
  ⟨h.1.fr hf (fun g hg => hS g (.inl hg)), fun i hi => (h.2.1 i hi).fr hf (fun g hg => hS g (.inr ⟨i, hi, hg⟩)), h.2.2⟩
theorem cls_apart {xs : List Value} {n : Nat} {v r : Value} {rr : List Value} {c : List (List Int × Int)} {base' : Nat} (h1 : w.ownsRow base 27 1 v n xs) (h2 : OwnCls w base' r rr c) {g : Nat} (hg : Foot r rr c.length g) : v.ownBlock ≠ some g := by
  obtain ⟨_, ⟨ys, h3, _⟩, h4, _⟩ := h2
  rcases hg with hg | ⟨j, hj, hg⟩
  · exact owns_apart h3 h1 (by decide) hg
  · exact owns_apart (h4 j hj) h1 (by decide) hg
theorem OwnCss.apart (h : OwnCss w base v rv rs R cs) {i g : Nat} (hi : i < R) (hg : Foot (rv i) (rs i) (cs i).length g) : v.ownBlock ≠ some g := by
  obtain ⟨ys, h1, _⟩ := h.1
  exact cls_apart h1 (h.2.1 i hi) hg
theorem OwnCls.mono {base' : Nat} {r : Value} {rr : List Value} {c : List (List Int × Int)} (h : OwnCls w base r rr c) (hb : base' ≤ base) : OwnCls w base' r rr c := by
  obtain ⟨h0, ⟨ys, h1, h2⟩, h3, h4⟩ := h
  exact ⟨h0, ⟨ys, owns_mono h1 hb, h2⟩, fun j hj => owns_mono (h3 j hj) hb, h4⟩
theorem OwnCss.push {v' r : Value} {rr : List Value} {c : List (List Int × Int)} {ys : List Value} (h : OwnCss w base v rv rs R cs) (hy : w.ownsRow base 27 1 v R ys) (hyy : ∀ j, j < R → ys[j]? = some (rv j))
    (hr : OwnCls w base r rr c) (hap : ∀ i g, i < R → Foot (rv i) (rs i) (cs i).length g → ¬ Foot r rr c.length g) (ho : w'.ownsRow base 27 1 v' (R + 1) (ys ++ [r])) (hg : w.grownBy w' v.ownBlock) :
    OwnCss w' base v' (fun i => if i = R then r else rv i) (fun i => if i = R then rr else rs i) (R + 1) (fun i => if i = R then c else cs i) := by
  have fr : Fr (fun k => v.ownBlock = some k) w w' := (Fr.refl _ _).grown hg (fun k hk => hk)
  refine ⟨own1_push (by have := hy.1; omega) hyy ho, fun i hi => ?_, fun i j g hij hj h1 => ?_⟩
  · dsimp only
    by_cases e : i = R
    · subst e; rw [if_pos rfl, if_pos rfl, if_pos rfl]
      exact hr.fr fr (fun g hg e => cls_apart hy hr hg e)
    · rw [if_neg e, if_neg e, if_neg e]
      exact (h.2.1 i (by omega)).fr fr (fun g hg e => h.apart (by omega) hg e)
  · dsimp only at h1 ⊢
    rw [if_neg (by omega), if_neg (by omega), if_neg (by omega)] at h1
    by_cases e : j = R
    · subst e; rw [if_pos rfl, if_pos rfl, if_pos rfl]
      exact hap i g (by omega) h1
    · rw [if_neg e, if_neg e, if_neg e]
      exact h.2.2 i j g hij (by omega) h1
theorem OwnCss.congr {cs' : Nat → List (List Int × Int)} (h : OwnCss w base v rv rs R cs) (e : ∀ i, i < R → cs i = cs' i) : OwnCss w base v rv rs R cs' :=
  ⟨h.1, fun i hi => by rw [← e i hi]; exact h.2.1 i hi, fun i j g hij hj h1 => by rw [← e i (by omega)] at h1; rw [← e j hj]; exact h.2.2 i j g hij hj h1⟩
end
def gkC (k : Int) (cs : Nat → List (List Int × Int)) : Nat → Int
  | 0 => k
  | i + 1 => kkC (gkC k cs i) (cs i) (cs i).length
def SmallC (k : Int) (cs : Nat → List (List Int × Int)) (R : Nat) : Prop := ∀ i, i < R → Small (gkC k cs i) (cs i) ∧ (cs i).length ≤ 4398046511104 ∧ ∀ j, j < (cs i).length → (cR (cs i) j).length ≤ 4398046511104
theorem SmallC.pos {k : Int} {cs : Nat → List (List Int × Int)} {R : Nat} (h : SmallC k cs R) {i : Nat} (hi : i < R) : 0 ≤ gkC k cs (i + 1) := ((h i hi).1 _ (Nat.le_refl _)).1
end Go.Proofs.YtmomcccgjjjldaaDoor
