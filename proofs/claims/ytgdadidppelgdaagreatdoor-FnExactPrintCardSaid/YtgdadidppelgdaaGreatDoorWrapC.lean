import Derived.Test.YtgdadidppelgdaaGreatDoorDrawM
import Derived.Deep.RegionLaw
import Derived.Deep.AppendLies
namespace Go.Proofs.YtgdadidppelgdaaGreatDoor
open Go.RowKit

/-- Rows of clusters read as cs. -/
def CssAt (w : World) (v : Value) (R : Nat) (cs : Nat → List (List Int × Int)) : Prop :=
  ∃ rv : Nat → Value, Row1At w v R rv ∧ ∀ i, i < R → ClsAt w (rv i) (cs i)
theorem CssAt.ext {w w' : World} {v : Value} {R : Nat} {cs : Nat → List (List Int × Int)} (h : CssAt w v R cs) (he : Ext w w') : CssAt w' v R cs := by
  obtain ⟨rv, h1, h2⟩ := h
  exact ⟨rv, h1.ext he, fun i hi => (h2 i hi).ext he⟩
def OwnCss (w : World) (base : Nat) (v : Value) (rv : Nat → Value) (rs : Nat → List Value) (R : Nat) (cs : Nat → List (List Int × Int)) : Prop :=
  Own1 w base 115 v R rv ∧ (∀ i, i < R → OwnCls w base (rv i) (rs i) (cs i)) ∧ (∀ i j g, i < j → j < R → Foot (rv i) (rs i) (cs i).length g → ¬ Foot (rv j) (rs j) (cs j).length g)
def CFoot (v : Value) (rv : Nat → Value) (rs : Nat → List Value) (R : Nat) (cs : Nat → List (List Int × Int)) (g : Nat) : Prop := v.ownBlock = some g ∨ ∃ i, i < R ∧ Foot (rv i) (rs i) (cs i).length g
section
variable {w w' : World} {base : Nat} {v : Value} {rv : Nat → Value} {rs : Nat → List Value} {R : Nat} {cs : Nat → List (List Int × Int)}
theorem OwnCss.ext (h : OwnCss w base v rv rs R cs) (he : Ext w w') : OwnCss w' base v rv rs R cs := ⟨h.1.ext he, fun i hi => (h.2.1 i hi).ext he, h.2.2⟩
theorem OwnCss.reads (h : OwnCss w base v rv rs R cs) : CssAt w v R cs := ⟨rv, h.1.reads, fun i hi => (h.2.1 i hi).cls⟩
theorem OwnCss.foot (h : OwnCss w base v rv rs R cs) {g : Nat} (hg : CFoot v rv rs R cs g) : base ≤ g ∧ g < w.heap.size := by
  rcases hg with hg | ⟨i, hi, hg⟩
  · exact h.1.lt g hg
  · exact (h.2.1 i hi).foot hg
theorem OwnCss.fr {S : Nat → Prop} (h : OwnCss w base v rv rs R cs) (hf : Fr S w w') (hS : ∀ g, CFoot v rv rs R cs g → ¬ S g) : OwnCss w' base v rv rs R cs :=
  ⟨h.1.fr hf (fun g hg => hS g (.inl hg)), fun i hi => (h.2.1 i hi).fr hf (fun g hg => hS g (.inr ⟨i, hi, hg⟩)), h.2.2⟩
theorem cls_apart {xs : List Value} {n : Nat} {v r : Value} {rr : List Value} {c : List (List Int × Int)} {base' : Nat} (h1 : w.ownsRow base 115 1 v n xs) (h2 : OwnCls w base' r rr c) {g : Nat} (hg : Foot r rr c.length g) : v.ownBlock ≠ some g := by
  obtain ⟨_, ⟨ys, h3, _⟩, h4, _⟩ := h2
  rcases hg with hg | ⟨j, hj, hg⟩
  · exact owns_apart h3 h1 (by decide) hg
  · exact owns_apart (h4 j hj) h1 (by decide) hg
theorem OwnCss.apart (h : OwnCss w base v rv rs R cs) {i g : Nat} (hi : i < R) (hg : Foot (rv i) (rs i) (cs i).length g) : v.ownBlock ≠ some g := by
  obtain ⟨ys, h1, _⟩ := h.1
  exact cls_apart h1 (h.2.1 i hi) hg
theorem OwnCss.row {c' : List (List Int × Int)} {j : Nat} (h : OwnCss w base v rv rs R cs) (hj : j < R) (hl : c'.length = (cs j).length) (ho : OwnCls w' base (rv j) (rs j) c') (hf : Fr (Foot (rv j) (rs j) (cs j).length) w w') :
    OwnCss w' base v rv rs R (fun i => if i = j then c' else cs i) := by
  have hlen : ∀ i, (if i = j then c' else cs i).length = (cs i).length := fun i => by
    by_cases e : i = j
    · subst e; rw [if_pos rfl, hl]
    · rw [if_neg e]
  refine ⟨h.1.fr hf (fun g hg e => h.apart hj e hg), fun i hi => ?_, fun i i' g hii hi' h1 => ?_⟩
  · dsimp only
    by_cases e : i = j
    · subst e; rw [if_pos rfl]; exact ho
    · rw [if_neg e]
      refine (h.2.1 i hi).fr hf (fun g hg e2 => ?_)
      rcases Nat.lt_or_gt_of_ne e with h5 | h5
      · exact h.2.2 i j g h5 hj hg e2
      · exact h.2.2 j i g h5 hi e2 hg
  · rw [hlen] at h1 ⊢
    exact h.2.2 i i' g hii hi' h1
theorem OwnCls.mono {base' : Nat} {r : Value} {rr : List Value} {c : List (List Int × Int)} (h : OwnCls w base r rr c) (hb : base' ≤ base) : OwnCls w base' r rr c := by
  obtain ⟨h0, ⟨ys, h1, h2⟩, h3, h4⟩ := h
  exact ⟨h0, ⟨ys, owns_mono h1 hb, h2⟩, fun j hj => owns_mono (h3 j hj) hb, h4⟩
/-- One row more at the end. -/
theorem OwnCss.push {v' r : Value} {rr : List Value} {c : List (List Int × Int)} {ys : List Value} (h : OwnCss w base v rv rs R cs) (hy : w.ownsRow base 115 1 v R ys) (hyy : ∀ j, j < R → ys[j]? = some (rv j))
    (hr : OwnCls w base r rr c) (hap : ∀ i g, i < R → Foot (rv i) (rs i) (cs i).length g → ¬ Foot r rr c.length g) (ho : w'.ownsRow base 115 1 v' (R + 1) (ys ++ [r])) (hg : w.grownBy w' v.ownBlock) :
    OwnCss w' base v' (fun i => if i = R then r else rv i) (fun i => if i = R then rr else rs i) (R + 1) (fun i => if i = R then c else cs i) := by
  have fr : Fr (fun k => v.ownBlock = some k) w w' := (Fr.refl _ _).grown hg (fun k hk => hk)
  refine ⟨own1_push (by have := hy.1; omega) hyy ho, fun i hi => ?_, fun i j g hij hj h1 => ?_⟩
  · dsimp only
    by_cases e : i = R
    · subst e; rw [if_pos rfl, if_pos rfl, if_pos rfl]
      exact hr.fr fr (fun g hg e => cls_apart hy hr hg e)
    · rw [if_neg e, if_neg e, if_neg e]
      exact (h.2.1 i (by omega)).fr fr (fun g hg e => h.apart (by omega) hg e)
  · dsimp only at h1 ⊢
    rw [if_neg (by omega), if_neg (by omega), if_neg (by omega)] at h1
    by_cases e : j = R
    · subst e; rw [if_pos rfl, if_pos rfl, if_pos rfl]
      exact hap i g (by omega) h1
    · rw [if_neg e, if_neg e, if_neg e]
      exact h.2.2 i j g hij (by omega) h1
theorem OwnCss.congr {cs' : Nat → List (List Int × Int)} (h : OwnCss w base v rv rs R cs) (e : ∀ i, i < R → cs i = cs' i) : OwnCss w base v rv rs R cs' :=
  ⟨h.1, fun i hi => by rw [← e i hi]; exact h.2.1 i hi, fun i j g hij hj h1 => by rw [← e i (by omega)] at h1; rw [← e j hj]; exact h.2.2 i j g hij hj h1⟩
end
def gkC (k : Int) (cs : Nat → List (List Int × Int)) : Nat → Int
  | 0 => k
  | i + 1 => kkC (gkC k cs i) (cs i) (cs i).length
/-- All that is counted is small. -/
def SmallC (k : Int) (cs : Nat → List (List Int × Int)) (R : Nat) : Prop := ∀ i, i < R → Small (gkC k cs i) (cs i) ∧ (cs i).length ≤ 4398046511104 ∧ ∀ j, j < (cs i).length → (cR (cs i) j).length ≤ 4398046511104
theorem SmallC.pos {k : Int} {cs : Nat → List (List Int × Int)} {R : Nat} (h : SmallC k cs R) {i : Nat} (hi : i < R) : 0 ≤ gkC k cs (i + 1) := ((h i hi).1 _ (Nat.le_refl _)).1
end Go.Proofs.YtgdadidppelgdaaGreatDoor

namespace Go.Proofs.YtgdadidppelgdaaGreatDoor
open Go.RowKit

def cWd (d : Int) : Int := if d < 0 then 0 else if 1000 < d then 1000 else d
theorem cWd_bd (d : Int) : 0 ≤ cWd d ∧ cWd d ≤ 1000 := by
  unfold cWd
  split
  · omega
  · split <;> omega
theorem l1Wide_any (r : Value) (d : Int) (w : World) : Calls Tryz.prog 117 #[.agg #[r, .int .i64 d]] w fun e w' => e = .returned (.int .i64 (cWd d)) ∧ Ext w w' := by
  by_cases h : d < 0
  · have hw : Hid (cWd d = 0) := by show _ = _; rw [cWd, if_pos h]
    go_enter Tryz.func117, Tryz.ntmps117
    go_wp2
    go_ret
    exact ⟨by rw [hw.out]; rfl, (Ext.refl _).alloc _⟩
  · by_cases h2 : 1000 < d
    · have hw : Hid (cWd d = 1000) := by show _ = _; rw [cWd, if_neg h, if_pos h2]
      go_enter Tryz.func117, Tryz.ntmps117
      go_wp2
      go_ret
      exact ⟨by rw [hw.out]; rfl, (Ext.refl _).alloc _⟩
    · have hw : Hid (cWd d = d) := by show _ = _; rw [cWd, if_neg h, if_neg h2]
      go_enter Tryz.func117, Tryz.ntmps117
      go_wp2
      go_ret
      exact ⟨by rw [hw.out]; rfl, (Ext.refl _).alloc _⟩
theorem countedWidth_any (r : Value) (d : Int) (w : World) : Calls Tryz.prog 140 #[.agg #[r, .int .i64 d]] w fun e w' => e = .returned (.int .i64 (cWd d)) ∧ Ext w w' := by
  by_cases h : d < 0
  · have hw : Hid (cWd d = 0) := by show _ = _; rw [cWd, if_pos h]
    have hm : max d 0 = 0 := by omega
    go_enter Tryz.func140, Tryz.ntmps140
    go_wp2
    go_ret
    exact ⟨by rw [hw.out]; rfl, (Ext.refl _).alloc _⟩
  · by_cases h2 : 1000 < d
    · have hw : Hid (cWd d = 1000) := by show _ = _; rw [cWd, if_neg h, if_pos h2]
      go_enter Tryz.func140, Tryz.ntmps140
      go_wp2
      go_ret
      exact ⟨by rw [hw.out]; rfl, (Ext.refl _).alloc _⟩
    · have hw : Hid (cWd d = d) := by show _ = _; rw [cWd, if_neg h, if_neg h2]
      go_enter Tryz.func140, Tryz.ntmps140
      go_wp2
      go_ret
      exact ⟨by rw [hw.out]; rfl, (Ext.refl _).alloc _⟩
theorem infoI32w : (Tryz.prog.info? 21).map (fun i => (i.zero, i.size, i.bytes)) = some (some (.int .i32 0), 1, 4) := by kernel_rfl
theorem ints_news' {w : World} {ao : Option Addr} {cap : Nat} {bs : List Int} {k : IntKind} (h : IntsAt w k (.slice ao bs.length cap) bs) (h0 : 0 < bs.length) : ∃ b off, ao = some ⟨b, off, none⟩ ∧ ∀ j u, (bs.map (Value.int k))[j]? = some u → w.cell? ((⟨b, off, none⟩ : Addr).add j) = some u := by
  obtain ⟨ao', c, e, _, hx⟩ := h
  obtain ⟨b, off, e2, hc⟩ := hx h0
  injection e with e3
  refine ⟨b, off, e3.trans e2, fun j u hj => ?_⟩
  have hjl : j < bs.length := by
    have := (List.getElem?_eq_some_iff.1 hj).1
    simpa using this
  rw [Addr.add_lit, hc j hjl]
  simp [at0_lt hjl] at hj
  rw [hj]
set_option maxHeartbeats 1000000 in
theorem copyCluster_any (r : Value) (xs : List Int) (d : Int) (w : World) (hr : IntsAt w .i32 r xs) (hx : xs.length ≤ 16777216) :
    Calls Tryz.prog 141 #[.agg #[r, .int .i64 d]] w fun e w' => ∃ r', e = .returned (.agg #[r', .int .i64 d]) ∧ w'.ownsRow w.heap.size 21 1 r' xs.length (xs.map (Value.int .i32)) ∧ Ext w w' := by
  obtain ⟨i0, hi, hz0, hz1, hz2⟩ := info_parts infoI32w
  have HR := hide hr
  obtain ⟨ao, cap, rfl, _, _⟩ := hr
  obtain ⟨V, hV⟩ : ∃ V, V = (w.alloc (.cells #[.slice ao xs.length cap, .int .i64 d] 139)).alloc (.cells #[.slice none 0 0, .int .i64 0] 139) := ⟨_, rfl⟩
  have hzV : V.heap.size = w.heap.size + 2 := by rw [hV]; simp
  have EV : Ext w V := by rw [hV]; exact ((Ext.refl _).alloc _).alloc _
  have c0 : V.cell? ⟨w.heap.size, 0, none⟩ = some (.slice ao xs.length cap) := by rw [hV]; simp [go_sem]
  have c1 : V.cell? ⟨w.heap.size, 1, none⟩ = some (.int .i64 d) := by rw [hV]; simp [go_sem]
  have c2 : V.cell? ⟨w.heap.size + 1, 0, none⟩ = some (.slice none 0 0) := by rw [hV]; simp [go_sem]
  have c3 : V.cell? ⟨w.heap.size + 1, 1, none⟩ = some (.int .i64 0) := by rw [hV]; simp [go_sem]
  have f2 : V.frozen? ⟨w.heap.size + 1, 0, none⟩ = false := by rw [hV]; simp [go_sem]
  have f3 : V.frozen? ⟨w.heap.size + 1, 1, none⟩ = false := by rw [hV]; simp [go_sem]
  have HO : Hid (V.drew.ownsRow (w.heap.size + 2) 21 1 (.slice none 0 0) 0 []) := ⟨by simp, .inl ⟨rfl, rfl⟩⟩
  have HVV := hide hV
  clear hV
  by_cases h0 : 0 < xs.length
  · obtain ⟨b, off, rfl, hn⟩ := ints_news' ((unhide HR).ext EV.drew) h0
    have HC := hide hn
    clear hn
    go_enter Tryz.func141, Tryz.ntmps141
    go_wp2
    rw [← unhide HVV]
    go_region_law (first
      | (refine step_append_lies _ (by rfl) _ _ _ (by rfl) (w.heap.size + 2) 21 i0 _ 1 4 Tryz.underlying125 hi hz0 hz1 hz2 rfl (by omega) _ 0 [] (by rfl) (unhide HO) ⟨b, off, none⟩ xs.length cap (xs.map (Value.int .i32)) (by rfl) (by simp) (unhide HC) (ints_oneCell _ _) (by omega) (by unfold maxLen; omega) (by omega) (by simp [hzV]) (w.heap.size + 2) (by simp [hzV]) ?_; intro g1 cap1 w1 o1 G1 at1 lt1; have E1 : Ext V w1 := (Ext.refl V).drew.grown G1 (fun k hk => by simp [Value.ownBlock] at hk); have k0 := E1.cell c0; have k1 := E1.cell c1; have k2 := E1.cell c2; have k3 := E1.cell c3; have k4 := E1.rules.2 _ 0 (show w.heap.size + 1 < _ by omega); have k5 := E1.rules.2 _ 1 (show w.heap.size + 1 < _ by omega); rw [f2] at k4; rw [f3] at k5; have O1 := hide o1; clear o1 G1))
    all_goals
      go_wp2
      refine bodyPost_ret (v := .agg #[.slice (some ⟨g1, 0, none⟩) (0 + xs.length) cap1, .int .i64 d]) (by simp [results, Tryz.results141, go_sem, k2, k3]) rfl ⟨_, rfl, ?_, ?_⟩
      · rw [Nat.zero_add]
        have := unhide O1
        rw [Nat.zero_add, List.nil_append] at this
        refine owns_setCell (owns_setCell (owns_mono this (by omega)) ?_ _) ?_ _
        · intro e; have := (this.lt _ e).1; dsimp only at this; omega
        · intro e; have := (this.lt _ e).1; dsimp only at this; omega
      · exact ((EV.trans E1).setCell (by dsimp only; omega) _).setCell (by dsimp only; omega) _
  · have e0 : xs = [] := List.eq_nil_of_length_eq_zero (by omega)
    subst e0
    simp only [List.length_nil] at HVV c0
    rcases ao with _ | ⟨b, off, sp⟩
    · go_enter Tryz.func141, Tryz.ntmps141
      go_wp2
      rw [← unhide HVV]
      go_region_law (first | fail)
      all_goals
        go_wp2
        refine bodyPost_ret (v := .agg #[.slice none 0 0, .int .i64 d]) (by simp [results, Tryz.results141, go_sem, c2, c3]) rfl ⟨_, rfl, ⟨by simp, .inl ⟨rfl, rfl⟩⟩, ?_⟩
        repeat' first | exact EV | refine Ext.drew ?_ | refine Ext.setCell ?_ (by dsimp only; omega) _
    · go_enter Tryz.func141, Tryz.ntmps141
      go_wp2
      rw [← unhide HVV]
      go_region_law (first | fail)
      all_goals
        go_wp2
        refine bodyPost_ret (v := .agg #[.slice none 0 0, .int .i64 d]) (by simp [results, Tryz.results141, go_sem, c2, c3]) rfl ⟨_, rfl, ⟨by simp, .inl ⟨rfl, rfl⟩⟩, ?_⟩
        repeat' first | exact EV | refine Ext.drew ?_ | refine Ext.setCell ?_ (by dsimp only; omega) _
end Go.Proofs.YtgdadidppelgdaaGreatDoor
