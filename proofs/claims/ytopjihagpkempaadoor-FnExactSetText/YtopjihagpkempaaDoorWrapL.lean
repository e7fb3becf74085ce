import Derived.Test.YtopjihagpkempaaDoorBaL
import Derived.Deep.RegionLaw
import Derived.Deep.AppendLies
namespace Go.Proofs.YtopjihagpkempaaDoor
open Go.RowKit

/-- Rows of clusters read as cs. -/
def CssAt (w : World) (v : Value) (R : Nat) (cs : Nat → List (List Int × Int)) : Prop :=
  ∃ rv : Nat → Value, Row1At w v R rv ∧ ∀ i, i < R → ClsAt w (rv i) (cs i)
theorem CssAt.ext {w w' : World} {v : Value} {R : Nat} {cs : Nat → List (List Int × Int)} (h : CssAt w v R cs) (he : Ext w w') : CssAt w' v R cs := by
  obtain ⟨rv, h1, h2⟩ := h
  exact ⟨rv, h1.ext he, fun i hi => (h2 i hi).ext he⟩
def OwnCss (w : World) (base : Nat) (v : Value) (rv : Nat → Value) (rs : Nat → List Value) (R : Nat) (cs : Nat → List (List Int × Int)) : Prop :=
  Own1 w base 73 v R rv ∧ (∀ i, i < R → OwnCls w base (rv i) (rs i) (cs i)) ∧ (∀ i j g, i < j → j < R → Foot (rv i) (rs i) (cs i).length g → ¬ Foot (rv j) (rs j) (cs j).length g)
def CFoot (v : Value) (rv : Nat → Value) (rs : Nat → List Value) (R : Nat) (cs : Nat → List (List Int × Int)) (g : Nat) : Prop := v.ownBlock = some g ∨ ∃ i, i < R ∧ Foot (rv i) (rs i) (cs i).length g
section
variable {w w' : World} {base : Nat} {v : Value} {rv : Nat → Value} {rs : Nat → List Value} {R : Nat} {cs : Nat → List (List Int × Int)}
theorem OwnCss.ext (h : OwnCss w base v rv rs R cs) (he : Ext w w') : OwnCss w' base v rv rs R cs := ⟨h.1.ext he, fun i hi => (h.2.1 i hi).ext he, h.2.2⟩
theorem OwnCss.reads (h : OwnCss w base v rv rs R cs) : CssAt w v R cs := ⟨rv, h.1.reads, fun i hi => (h.2.1 i hi).cls⟩
theorem OwnCss.foot (h : OwnCss w base v rv rs R cs) {g : Nat} (hg : CFoot v rv rs R cs g) : base ≤ g ∧ g < w.heap.size := by
  rcases hg with hg | ⟨i, hi, hg⟩
  · exact h.1.lt g hg
  · exact (h.2.1 i hi).foot hg
theorem OwnCss.fr {S : Nat → Prop} (h : OwnCss w base v rv rs R cs) (hf : Fr S w w') (hS : ∀ g, CFoot v rv rs R cs g → ¬ S g) : OwnCss w' base v rv rs R cs :=
  ⟨h.1.fr hf (fun g hg => hS g (.inl hg)), fun i hi => (h.2.1 i hi).fr hf (fun g hg => hS g (.inr ⟨i, hi, hg⟩)), h.2.2⟩
theorem cls_apart {xs : List Value} {n : Nat} {v r : Value} {rr : List Value} {c : List (List Int × Int)} {base' : Nat} (h1 : w.ownsRow base 73 1 v n xs) (h2 : OwnCls w base' r rr c) {g : Nat} (hg : Foot r rr c.length g) : v.ownBlock ≠ some g := by
  obtain ⟨_, ⟨ys, h3, _⟩, h4, _⟩ := h2
  rcases hg with hg | ⟨j, hj, hg⟩
  · exact owns_apart h3 h1 (by decide) hg
  · exact owns_apart (h4 j hj) h1 (by decide) hg
theorem OwnCss.apart (h : OwnCss w base v rv rs R cs) {i g : Nat} (hi : i < R) (hg : Foot (rv i) (rs i) (cs i).length g) : v.ownBlock ≠ some g := by
  obtain ⟨ys, h1, _⟩ := h.1
  exact cls_apart h1 (h.2.1 i hi) hg
theorem OwnCss.row {c' : List (List Int × Int)} {j : Nat} (h : OwnCss w base v rv rs R cs) (hj : j < R) (hl : c'.length = (cs j).length) (ho : OwnCls w' base (rv j) (rs j) c') (hf : Fr (Foot (rv j) (rs j) (cs j).length) w w') :
    OwnCss w' base v rv rs R (fun i => if i = j then c' else cs i) := by
  have hlen : ∀ i, (if i = j then c' else cs i).length = (cs i).length := fun i => by
    by_cases e : i = j
    · subst e; rw [if_pos rfl, hl]
    · rw [if_neg e]
  refine ⟨h.1.fr hf (fun g hg e => h.apart hj e hg), fun i hi => ?_, fun i i' g hii hi' h1 => ?_⟩
  · dsimp only
    by_cases e : i = j
    · subst e; rw [if_pos rfl]; exact ho
    · rw [if_neg e]
      refine (h.2.1 i hi).fr hf (fun g hg e2 => ?_)
      rcases Nat.lt_or_gt_of_ne e with h5 | h5
      · exact h.2.2 i j g h5 hj hg e2
      · exact h.2.2 j i g h5 hi e2 hg
  · rw [hlen] at h1 ⊢
    exact h.2.2 i i' g hii hi' h1
theorem OwnCls.mono {base' : Nat} {r : Value} {rr : List Value} {c : List (List Int × Int)} (h : OwnCls w base r rr c) (hb : base' ≤ base) : OwnCls w base' r rr c := by
  obtain ⟨h0, ⟨ys, h1, h2⟩, h3, h4⟩ := h
  exact ⟨h0, ⟨ys, owns_mono h1 hb, h2⟩, fun j hj => owns_mono (h3 j hj) hb, h4⟩
/-- One row more at the end. -/
theorem OwnCss.push {v' r : Value} {rr : List Value} {c : List (List Int × Int)} {ys : List Value} (h : OwnCss w base v rv rs R cs) (hy : w.ownsRow base 73 1 v R ys) (hyy : ∀ j, j < R → ys[j]? = some (rv j))
    (hr : OwnCls w base r rr c) (hap : ∀ i g, i < R → Foot (rv i) (rs i) (cs i).length g → ¬ Foot r rr c.length g) (ho : w'.ownsRow base 73 1 v' (R + 1) (ys ++ [r])) (hg : w.grownBy w' v.ownBlock) :
    OwnCss w' base v' (fun i => if i = R then r else rv i) (fun i => if i = R then rr else rs i) (R + 1) (fun i => if i = R then c else cs i) := by
  have fr : Fr (fun k => v.ownBlock = some k) w w' := (Fr.refl _ _).grown hg (fun k hk => hk)
  refine ⟨own1_push (by have := hy.1; omega) hyy ho, fun i hi => ?_, fun i j g hij hj h1 => ?_⟩
  · dsimp only
    by_cases e : i = R
    · subst e; rw [if_pos rfl, if_pos rfl, if_pos rfl]
      exact hr.fr fr (fun g hg e => cls_apart hy hr hg e)
    · rw [if_neg e, if_neg e, if_neg e]
      exact (h.2.1 i (by omega)).fr fr (fun g hg e => h.apart (by omega) hg e)
  · dsimp only at h1 ⊢
    rw [if_neg (by omega), if_neg (by omega), if_neg (by omega)] at h1
    by_cases e : j = R
    · subst e; rw [if_pos rfl, if_pos rfl, if_pos rfl]
      exact hap i g (by omega) h1
    · rw [if_neg e, if_neg e, if_neg e]
      exact h.2.2 i j g hij (by omega) h1
theorem OwnCss.congr {cs' : Nat → List (List Int × Int)} (h : OwnCss w base v rv rs R cs) (e : ∀ i, i < R → cs i = cs' i) : OwnCss w base v rv rs R cs' :=
  ⟨h.1, fun i hi => by rw [← e i hi]; exact h.2.1 i hi, fun i j g hij hj h1 => by rw [← e i (by omega)] at h1; rw [← e j hj]; exact h.2.2 i j g hij hj h1⟩
end
def gkC (k : Int) (cs : Nat → List (List Int × Int)) : Nat → Int
  | 0 => k
  | i + 1 => kkC (gkC k cs i) (cs i) (cs i).length
/-- All that is counted is small. -/
def SmallC (k : Int) (cs : Nat → List (List Int × Int)) (R : Nat) : Prop := ∀ i, i < R → Small (gkC k cs i) (cs i) ∧ (cs i).length ≤ 4398046511104 ∧ ∀ j, j < (cs i).length → (cR (cs i) j).length ≤ 4398046511104
theorem SmallC.pos {k : Int} {cs : Nat → List (List Int × Int)} {R : Nat} (h : SmallC k cs R) {i : Nat} (hi : i < R) : 0 ≤ gkC k cs (i + 1) := ((h i hi).1 _ (Nat.le_refl _)).1
end Go.Proofs.YtopjihagpkempaaDoor

namespace Go.Proofs.YtopjihagpkempaaDoor
open Go.RowKit

def cWd (d : Int) : Int := if d < 0 then 0 else if 1000 < d then 1000 else d
theorem cWd_bd (d : Int) : 0 ≤ cWd d ∧ cWd d ≤ 1000 := by
  unfold cWd
  split
  · omega
  · split <;> omega
theorem infoI32w : (Tryd.prog.info? 21).map (fun i => (i.zero, i.size, i.bytes)) = some (some (.int .i32 0), 1, 4) := by kernel_rfl
theorem ints_news' {w : World} {ao : Option Addr} {cap : Nat} {bs : List Int} {k : IntKind} (h : IntsAt w k (.slice ao bs.length cap) bs) (h0 : 0 < bs.length) : ∃ b off, ao = some ⟨b, off, none⟩ ∧ ∀ j u, (bs.map (Value.int k))[j]? = some u → w.cell? ((⟨b, off, none⟩ : Addr).add j) = some u := by
  obtain ⟨ao', c, e, _, hx⟩ := h
  obtain ⟨b, off, e2, hc⟩ := hx h0
  injection e with e3
  refine ⟨b, off, e3.trans e2, fun j u hj => ?_⟩
  have hjl : j < bs.length := by
    have := (List.getElem?_eq_some_iff.1 hj).1
    simpa using this
  rw [Addr.add_lit, hc j hjl]
  simp [at0_lt hjl] at hj
  rw [hj]
end Go.Proofs.YtopjihagpkempaaDoor

namespace Go.Proofs.YtopjihagpkempaaDoor
open Go.RowKit

theorem infoClw : (Tryd.prog.info? 58).map (fun i => (i.zero, i.size, i.bytes)) = some (some (.agg #[.slice none 0 0, .int .i64 0]), 2, 32) := by kernel_rfl
theorem cls_take_succ (cs : List (List Int × Int)) (k : Nat) (h : k < cs.length) : cs.take (k + 1) = cs.take k ++ [(cR cs k, cW cs k)] := by
  rw [List.take_succ_eq_append_getElem h]
  congr 1
  simp [cR, cW, h]
theorem cls_none {W : World} {base : Nat} {v : Value} (h : W.ownsRow base 58 2 v 0 []) : OwnCls W base v [] [] :=
  ⟨rfl, ⟨[], h, fun j hj => by simp at hj⟩, fun j hj => by simp at hj, fun i j g _ hj => by simp at hj⟩
theorem owns_empty' (w : World) (base : Nat) (t : TypeId) (sz : Nat) (hb : base ≤ w.heap.size) : (w.alloc (.cells #[] t)).ownsRow base t sz (.slice (some ⟨w.heap.size, 0, none⟩) 0 0) 0 [] :=
  ⟨by simp, .inr ⟨w.heap.size, 0, #[], rfl, hb, heap_alloc_new w _, Nat.le_refl _, by unfold maxLen; omega, by simp, by simp⟩⟩
end Go.Proofs.YtopjihagpkempaaDoor
