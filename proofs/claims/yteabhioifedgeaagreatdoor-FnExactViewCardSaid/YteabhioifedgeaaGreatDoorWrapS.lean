import Derived.Test.YteabhioifedgeaaGreatDoorRows12
import Derived.Deep.RegionLaw
import Derived.Deep.AppendLies
namespace Go.Proofs.YteabhioifedgeaaGreatDoor
open Go.RowKit

/-- Rows of clusters read as cs. -/
def CssAt (w : World) (v : Value) (R : Nat) (cs : Nat → List (List Int × Int)) : Prop :=
  ∃ rv : Nat → Value, Row1At w v R rv ∧ ∀ i, i < R → ClsAt w (rv i) (cs i)
theorem CssAt.ext {w w' : World} {v : Value} {R : Nat} {cs : Nat → List (List Int × Int)} (h : CssAt w v R cs) (he : Ext w w') : CssAt w' v R cs := by
  obtain ⟨rv, h1, h2⟩ := h
  exact ⟨rv, h1.ext he, fun i hi => (h2 i hi).ext he⟩
def OwnCss (w : World) (base : Nat) (v : Value) (rv : Nat → Value) (rs : Nat → List Value) (R : Nat) (cs : Nat → List (List Int × Int)) : Prop :=
  Own1 w base 203 v R rv ∧ (∀ i, i < R → OwnCls w base (rv i) (rs i) (cs i)) ∧ (∀ i j g, i < j → j < R → Foot (rv i) (rs i) (cs i).length g → ¬ Foot (rv j) (rs j) (cs j).length g)
def CFoot (v : Value) (rv : Nat → Value) (rs : Nat → List Value) (R : Nat) (cs : Nat → List (List Int × Int)) (g : Nat) : Prop := v.ownBlock = some g ∨ ∃ i, i < R ∧ Foot (rv i) (rs i) (cs i).length g
section
variable {w w' : World} {base : Nat} {v : Value} {rv : Nat → Value} {rs : Nat → List Value} {R : Nat} {cs : Nat → List (List Int × Int)}
theorem OwnCss.ext (h : OwnCss w base v rv rs R cs) (he : Ext w w') : OwnCss w' base v rv rs R cs := ⟨h.1.ext he, fun i hi => (h.2.1 i hi).ext he, h.2.2⟩
theorem OwnCss.reads (h : OwnCss w base v rv rs R cs) : CssAt w v R cs := ⟨rv, h.1.reads, fun i hi => (h.2.1 i hi).cls⟩
theorem OwnCss.foot (h : OwnCss w base v rv rs R cs) {g : Nat} (hg : CFoot v rv rs R cs g) : base ≤ g ∧ g < w.heap.size := by
  rcases hg with hg | ⟨i, hi, hg⟩
  · exact h.1.lt g hg
  · exact (h.2.1 i hi).foot hg
theorem OwnCss.fr {S : Nat → Prop} (h : OwnCss w base v rv rs R cs) (hf : Fr S w w') (hS : ∀ g, CFoot v rv rs R cs g → ¬ S g) : OwnCss w' base v rv rs R cs :=
  ⟨h.1.fr hf (fun g hg => hS g (.inl hg)), fun i hi => (h.2.1 i hi).fr hf (fun g hg => hS g (.inr ⟨i, hi, hg⟩)), h.2.2⟩
theorem cls_apart {xs : List Value} {n : Nat} {v r : Value} {rr : List Value} {c : List (List Int × Int)} {base' : Nat} (h1 : w.ownsRow base 203 1 v n xs) (h2 : OwnCls w base' r rr c) {g : Nat} (hg : Foot r rr c.length g) : v.ownBlock ≠ some g := by
  obtain ⟨_, ⟨ys, h3, _⟩, h4, _⟩ := h2
  rcases hg with hg | ⟨j, hj, hg⟩
  · exact owns_apart h3 h1 (by decide) hg
  · exact owns_apart (h4 j hj) h1 (by decide) hg
theorem OwnCss.apart (h : OwnCss w base v rv rs R cs) {i g : Nat} (hi : i < R) (hg : Foot (rv i) (rs i) (cs i).length g) : v.ownBlock ≠ some g := by
  obtain ⟨ys, h1, _⟩ := h.1
  exact cls_apart h1 (h.2.1 i hi) hg
theorem OwnCss.row {c' : List (List Int × Int)} {j : Nat} (h : OwnCss w base v rv rs R cs) (hj : j < R) (hl : c'.length = (cs j).length) (ho : OwnCls w' base (rv j) (rs j) c') (hf : Fr (Foot (rv j) (rs j) (cs j).length) w w') :
    OwnCss w' base v rv rs R (fun i => if i = j then c' else cs i) := by
  have hlen : ∀ i, (if i = j then c' else cs i).length = (cs i).length := fun i => by
    by_cases e : i = j
    · subst e; rw [if_pos rfl, hl]
    · rw [if_neg e]
  refine ⟨h.1.fr hf (fun g hg e => h.apart hj e hg), fun i hi => ?_, fun i i' g hii hi' h1 => ?_⟩
  · dsimp only
    by_cases e : i = j
    · subst e; rw [if_pos rfl]; exact ho
    · rw [if_neg e]
      refine (h.2.1 i hi).fr hf (fun g hg e2 => ?_)
      rcases Nat.lt_or_gt_of_ne e with h5 | h5
      · exact h.2.2 i j g h5 hj hg e2
      · exact h.2.2 j i g h5 hi e2 hg
  · rw [hlen] at h1 ⊢
    exact h.2.2 i i' g hii hi' h1
theorem OwnCls.mono {base' : Nat} {r : Value} {rr : List Value} {c : List (List Int × Int)} (h : OwnCls w base r rr c) (hb : base' ≤ base) : OwnCls w base' r rr c := by
  obtain ⟨h0, ⟨ys, h1, h2⟩, h3, h4⟩ := h
  exact ⟨h0, ⟨ys, owns_mono h1 hb, h2⟩, fun j hj => owns_mono (h3 j hj) hb, h4⟩
/-- One row more at the end. -/
theorem OwnCss.push {v' r : Value} {rr : List Value} {c : List (List Int × Int)} {ys : List Value} (h : OwnCss w base v rv rs R cs) (hy : w.ownsRow base 203 1 v R ys) (hyy : ∀ j, j < R → ys[j]? = some (rv j))
    (hr : OwnCls w base r rr c) (hap : ∀ i g, i < R → Foot (rv i) (rs i) (cs i).length g → ¬ Foot r rr c.length g) (ho : w'.ownsRow base 203 1 v' (R + 1) (ys ++ [r])) (hg : w.grownBy w' v.ownBlock) :
    OwnCss w' base v' (fun i => if i = R then r else rv i) (fun i => if i = R then rr else rs i) (R + 1) (fun i => if i = R then c else cs i) := by
  have fr : Fr (fun k => v.ownBlock = some k) w w' := (Fr.refl _ _).grown hg (fun k hk => hk)
  refine ⟨own1_push (by have := hy.1; omega) hyy ho, fun i hi => ?_, fun i j g hij hj h1 => ?_⟩
  · dsimp only
    by_cases e : i = R
    · subst e; rw [if_pos rfl, if_pos rfl, if_pos rfl]
      exact hr.fr fr (fun g hg e => cls_apart hy hr hg e)
    · rw [if_neg e, if_neg e, if_neg e]
      exact (h.2.1 i (by omega)).fr fr (fun g hg e => h.apart (by omega) hg e)
  · dsimp only at h1 ⊢
    rw [if_neg (by omega), if_neg (by omega), if_neg (by omega)] at h1
    by_cases e : j = R
    · subst e; rw [if_pos rfl, if_pos rfl, if_pos rfl]
      exact hap i g (by omega) h1
    · rw [if_neg e, if_neg e, if_neg e]
      exact h.2.2 i j g hij (by omega) h1
theorem OwnCss.congr {cs' : Nat → List (List Int × Int)} (h : OwnCss w base v rv rs R cs) (e : ∀ i, i < R → cs i = cs' i) : OwnCss w base v rv rs R cs' :=
  ⟨h.1, fun i hi => by rw [← e i hi]; exact h.2.1 i hi, fun i j g hij hj h1 => by rw [← e i (by omega)] at h1; rw [← e j hj]; exact h.2.2 i j g hij hj h1⟩
end
def gkC (k : Int) (cs : Nat → List (List Int × Int)) : Nat → Int
  | 0 => k
  | i + 1 => kkC (gkC k cs i) (cs i) (cs i).length
/-- All that is counted is small. -/
def SmallC (k : Int) (cs : Nat → List (List Int × Int)) (R : Nat) : Prop := ∀ i, i < R → Small (gkC k cs i) (cs i) ∧ (cs i).length ≤ 4398046511104 ∧ ∀ j, j < (cs i).length → (cR (cs i) j).length ≤ 4398046511104
theorem SmallC.pos {k : Int} {cs : Nat → List (List Int × Int)} {R : Nat} (h : SmallC k cs R) {i : Nat} (hi : i < R) : 0 ≤ gkC k cs (i + 1) := ((h i hi).1 _ (Nat.le_refl _)).1
end Go.Proofs.YteabhioifedgeaaGreatDoor

namespace Go.Proofs.YteabhioifedgeaaGreatDoor
open Go.RowKit

def cWd (d : Int) : Int := if d < 0 then 0 else if 1000 < d then 1000 else d
theorem cWd_bd (d : Int) : 0 ≤ cWd d ∧ cWd d ≤ 1000 := by
  unfold cWd
  split
  · omega
  · split <;> omega
theorem l1Wide_any (r : Value) (d : Int) (w : World) : Calls Tryz.prog 235 #[.agg #[r, .int .i64 d]] w fun e w' => e = .returned (.int .i64 (cWd d)) ∧ Ext w w' := by
  by_cases h : d < 0
  · have hw : Hid (cWd d = 0) := by show _ = _; rw [cWd, if_pos h]
    go_enter Tryz.func235, Tryz.ntmps235
    go_wp2
    go_ret
    exact ⟨by rw [hw.out]; rfl, (Ext.refl _).alloc _⟩
  · by_cases h2 : 1000 < d
    · have hw : Hid (cWd d = 1000) := by show _ = _; rw [cWd, if_neg h, if_pos h2]
      go_enter Tryz.func235, Tryz.ntmps235
      go_wp2
      go_ret
      exact ⟨by rw [hw.out]; rfl, (Ext.refl _).alloc _⟩
    · have hw : Hid (cWd d = d) := by show _ = _; rw [cWd, if_neg h, if_neg h2]
      go_enter Tryz.func235, Tryz.ntmps235
      go_wp2
      go_ret
      exact ⟨by rw [hw.out]; rfl, (Ext.refl _).alloc _⟩
theorem countedWidth_any (r : Value) (d : Int) (w : World) : Calls Tryz.prog 280 #[.agg #[r, .int .i64 d]] w fun e w' => e = .returned (.int .i64 (cWd d)) ∧ Ext w w' := by
  by_cases h : d < 0
  · have hw : Hid (cWd d = 0) := by show _ = _; rw [cWd, if_pos h]
    have hm : max d 0 = 0 := by omega
    go_enter Tryz.func280, Tryz.ntmps280
    go_wp2
    go_ret
    exact ⟨by rw [hw.out]; rfl, (Ext.refl _).alloc _⟩
  · by_cases h2 : 1000 < d
    · have hw : Hid (cWd d = 1000) := by show _ = _; rw [cWd, if_neg h, if_pos h2]
      go_enter Tryz.func280, Tryz.ntmps280
      go_wp2
      go_ret
      exact ⟨by rw [hw.out]; rfl, (Ext.refl _).alloc _⟩
    · have hw : Hid (cWd d = d) := by show _ = _; rw [cWd, if_neg h, if_neg h2]
      go_enter Tryz.func280, Tryz.ntmps280
      go_wp2
      go_ret
      exact ⟨by rw [hw.out]; rfl, (Ext.refl _).alloc _⟩
theorem infoI32w : (Tryz.prog.info? 21).map (fun i => (i.zero, i.size, i.bytes)) = some (some (.int .i32 0), 1, 4) := by kernel_rfl
theorem ints_news' {w : World} {ao : Option Addr} {cap : Nat} {bs : List Int} {k : IntKind} (h : IntsAt w k (.slice ao bs.length cap) bs) (h0 : 0 < bs.length) : ∃ b off, ao = some ⟨b, off, none⟩ ∧ ∀ j u, (bs.map (Value.int k))[j]? = some u → w.cell? ((⟨b, off, none⟩ : Addr).add j) = some u := by
  obtain ⟨ao', c, e, _, hx⟩ := h
  obtain ⟨b, off, e2, hc⟩ := hx h0
  injection e with e3
  refine ⟨b, off, e3.trans e2, fun j u hj => ?_⟩
  have hjl : j < bs.length := by
    have := (List.getElem?_eq_some_iff.1 hj).1
    simpa using this
  rw [Addr.add_lit, hc j hjl]
  simp [at0_lt hjl] at hj
  rw [hj]
set_option maxHeartbeats 1000000 in
theorem copyCluster_any (r : Value) (xs : List Int) (d : Int) (w : World) (hr : IntsAt w .i32 r xs) (hx : xs.length ≤ 16777216) :
    Calls Tryz.prog 281 #[.agg #[r, .int .i64 d]] w fun e w' => ∃ r', e = .returned (.agg #[r', .int .i64 d]) ∧ w'.ownsRow w.heap.size 21 1 r' xs.length (xs.map (Value.int .i32)) ∧ Ext w w' := by
  obtain ⟨i0, hi, hz0, hz1, hz2⟩ := info_parts infoI32w
  have HR := hide hr
  obtain ⟨ao, cap, rfl, _, _⟩ := hr
  obtain ⟨V, hV⟩ : ∃ V, V = (w.alloc (.cells #[.slice ao xs.length cap, .int .i64 d] 261)).alloc (.cells #[.slice none 0 0, .int .i64 0] 261) := ⟨_, rfl⟩
  have hzV : V.heap.size = w.heap.size + 2 := by rw [hV]; simp
  have EV : Ext w V := by rw [hV]; exact ((Ext.refl _).alloc _).alloc _
  have c0 : V.cell? ⟨w.heap.size, 0, none⟩ = some (.slice ao xs.length cap) := by rw [hV]; simp [go_sem]
  have c1 : V.cell? ⟨w.heap.size, 1, none⟩ = some (.int .i64 d) := by rw [hV]; simp [go_sem]
  have c2 : V.cell? ⟨w.heap.size + 1, 0, none⟩ = some (.slice none 0 0) := by rw [hV]; simp [go_sem]
  have c3 : V.cell? ⟨w.heap.size + 1, 1, none⟩ = some (.int .i64 0) := by rw [hV]; simp [go_sem]
  have f2 : V.frozen? ⟨w.heap.size + 1, 0, none⟩ = false := by rw [hV]; simp [go_sem]
  have f3 : V.frozen? ⟨w.heap.size + 1, 1, none⟩ = false := by rw [hV]; simp [go_sem]
  have HO : Hid (V.drew.ownsRow (w.heap.size + 2) 21 1 (.slice none 0 0) 0 []) := ⟨by simp, .inl ⟨rfl, rfl⟩⟩
  have HVV := hide hV
  clear hV
  by_cases h0 : 0 < xs.length
  · obtain ⟨b, off, rfl, hn⟩ := ints_news' ((unhide HR).ext EV.drew) h0
    have HC := hide hn
    clear hn
    go_enter Tryz.func281, Tryz.ntmps281
    go_wp2
    rw [← unhide HVV]
    go_region_law (first
      | (refine step_append_lies _ (by rfl) _ _ _ (by rfl) (w.heap.size + 2) 21 i0 _ 1 4 Tryz.underlying118 hi hz0 hz1 hz2 rfl (by omega) _ 0 [] (by rfl) (unhide HO) ⟨b, off, none⟩ xs.length cap (xs.map (Value.int .i32)) (by rfl) (by simp) (unhide HC) (ints_oneCell _ _) (by omega) (by unfold maxLen; omega) (by omega) (by simp [hzV]) (w.heap.size + 2) (by simp [hzV]) ?_; intro g1 cap1 w1 o1 G1 at1 lt1; have E1 : Ext V w1 := (Ext.refl V).drew.grown G1 (fun k hk => by simp [Value.ownBlock] at hk); have k0 := E1.cell c0; have k1 := E1.cell c1; have k2 := E1.cell c2; have k3 := E1.cell c3; have k4 := E1.rules.2 _ 0 (show w.heap.size + 1 < _ by omega); have k5 := E1.rules.2 _ 1 (show w.heap.size + 1 < _ by omega); rw [f2] at k4; rw [f3] at k5; have O1 := hide o1; clear o1 G1))
    all_goals
      go_wp2
      refine bodyPost_ret (v := .agg #[.slice (some ⟨g1, 0, none⟩) (0 + xs.length) cap1, .int .i64 d]) (by simp [results, Tryz.results281, go_sem, k2, k3]) rfl ⟨_, rfl, ?_, ?_⟩
      · rw [Nat.zero_add]
        have := unhide O1
        rw [Nat.zero_add, List.nil_append] at this
        refine owns_setCell (owns_setCell (owns_mono this (by omega)) ?_ _) ?_ _
        · intro e; have := (this.lt _ e).1; dsimp only at this; omega
        · intro e; have := (this.lt _ e).1; dsimp only at this; omega
      · exact ((EV.trans E1).setCell (by dsimp only; omega) _).setCell (by dsimp only; omega) _
  · have e0 : xs = [] := List.eq_nil_of_length_eq_zero (by omega)
    subst e0
    simp only [List.length_nil] at HVV c0
    rcases ao with _ | ⟨b, off, sp⟩
    · go_enter Tryz.func281, Tryz.ntmps281
      go_wp2
      rw [← unhide HVV]
      go_region_law (first | fail)
      all_goals
        go_wp2
        refine bodyPost_ret (v := .agg #[.slice none 0 0, .int .i64 d]) (by simp [results, Tryz.results281, go_sem, c2, c3]) rfl ⟨_, rfl, ⟨by simp, .inl ⟨rfl, rfl⟩⟩, ?_⟩
        repeat' first | exact EV | refine Ext.drew ?_ | refine Ext.setCell ?_ (by dsimp only; omega) _
    · go_enter Tryz.func281, Tryz.ntmps281
      go_wp2
      rw [← unhide HVV]
      go_region_law (first | fail)
      all_goals
        go_wp2
        refine bodyPost_ret (v := .agg #[.slice none 0 0, .int .i64 d]) (by simp [results, Tryz.results281, go_sem, c2, c3]) rfl ⟨_, rfl, ⟨by simp, .inl ⟨rfl, rfl⟩⟩, ?_⟩
        repeat' first | exact EV | refine Ext.drew ?_ | refine Ext.setCell ?_ (by dsimp only; omega) _
end Go.Proofs.YteabhioifedgeaaGreatDoor

namespace Go.Proofs.YteabhioifedgeaaGreatDoor
open Go.RowKit

theorem infoClw : (Tryz.prog.info? 261).map (fun i => (i.zero, i.size, i.bytes)) = some (some (.agg #[.slice none 0 0, .int .i64 0]), 2, 32) := by kernel_rfl
theorem cls_take_succ (cs : List (List Int × Int)) (k : Nat) (h : k < cs.length) : cs.take (k + 1) = cs.take k ++ [(cR cs k, cW cs k)] := by
  rw [List.take_succ_eq_append_getElem h]
  congr 1
  simp [cR, cW, h]
theorem cls_none {W : World} {base : Nat} {v : Value} (h : W.ownsRow base 261 2 v 0 []) : OwnCls W base v [] [] :=
  ⟨rfl, ⟨[], h, fun j hj => by simp at hj⟩, fun j hj => by simp at hj, fun i j g _ hj => by simp at hj⟩
theorem owns_empty' (w : World) (base : Nat) (t : TypeId) (sz : Nat) (hb : base ≤ w.heap.size) : (w.alloc (.cells #[] t)).ownsRow base t sz (.slice (some ⟨w.heap.size, 0, none⟩) 0 0) 0 [] :=
  ⟨by simp, .inr ⟨w.heap.size, 0, #[], rfl, hb, heap_alloc_new w _, Nat.le_refl _, by unfold maxLen; omega, by simp, by simp⟩⟩
end Go.Proofs.YteabhioifedgeaaGreatDoor

namespace Go.Proofs.YteabhioifedgeaaGreatDoor
open Go.RowKit

/-- The places at which rows begin, and what the last row takes, after k clusters. -/
def stF (cs : List (List Int × Int)) (cols : Int) : Nat → List Int × Int
  | 0 => ([0], 0)
  | k + 1 => if at0 (stF cs cols k).1 ((stF cs cols k).1.length - 1) < (k : Int) ∧ cols < (stF cs cols k).2 + cWd (cW cs k) then ((stF cs cols k).1 ++ [(k : Int)], cWd (cW cs k)) else ((stF cs cols k).1, (stF cs cols k).2 + cWd (cW cs k))
theorem at0_app {xs : List Int} {x : Int} {i : Nat} : at0 (xs ++ [x]) i = if i = xs.length then x else at0 xs i := by
  unfold at0
  by_cases h : i = xs.length
  · subst h; simp
  · rw [if_neg h]
    by_cases h2 : i < xs.length
    · rw [List.getElem?_append_left h2]
    · rw [List.getElem?_eq_none (by simp; omega), List.getElem?_eq_none (by omega)]
/-- What holds of them. -/
structure StOk (S : List Int) (u : Int) (k : Nat) : Prop where
  one : 1 ≤ S.length
  len : S.length ≤ k + 1
  u0 : 0 ≤ u
  u1 : u ≤ 1000 * (k : Int)
  at00 : at0 S 0 = 0
  le : ∀ i, i < S.length → 0 ≤ at0 S i ∧ at0 S i ≤ (k : Int)
  mono : ∀ i, i + 1 < S.length → at0 S i ≤ at0 S (i + 1)
theorem stF_ok (cs : List (List Int × Int)) (cols : Int) : ∀ k, StOk (stF cs cols k).1 (stF cs cols k).2 k
  | 0 => ⟨by simp [stF], by simp [stF], by simp [stF], by simp [stF], by simp [stF, at0], fun i hi => by
      simp [stF] at hi; subst hi; simp [stF, at0], fun i hi => by simp [stF] at hi⟩
  | k + 1 => by
    have h := stF_ok cs cols k
    have hw := cWd_bd (cW cs k)
    have h1 := h.one
    have h2 := h.len
    have h3 := h.u0
    have h4 := h.u1
    rw [stF]
    split
    · refine ⟨by simp, by simp; omega, by dsimp only; omega, by dsimp only; omega, ?_, fun i hi => ?_, fun i hi => ?_⟩
      · dsimp only; rw [at0_app, if_neg (by omega)]; exact h.at00
      · dsimp only at hi ⊢
        simp at hi
        rw [at0_app]
        split
        · omega
        · have := h.le i (by omega); omega
      · dsimp only at hi ⊢
        simp at hi
        rw [at0_app, at0_app, if_neg (by omega)]
        split
        · have := h.le i (by omega); omega
        · exact h.mono i (by omega)
    · refine ⟨h1, by dsimp only; omega, by dsimp only; omega, by dsimp only; omega, h.at00, fun i hi => ?_, h.mono⟩
      have := h.le i hi
      dsimp only
      omega
theorem infoInt : (Tryz.prog.info? 3).map (fun i => (i.zero, i.size, i.bytes)) = some (some (.int .i64 0), 1, 8) := by kernel_rfl
set_option maxRecDepth 10000 in
set_option maxHeartbeats 2000000 in
theorem l1Starts_any (v : Value) (cs : List (List Int × Int)) (cols : Int) (w : World) (hv : ClsAt w v cs) (hl : cs.length ≤ 16777216) :
    Calls Tryz.prog 178 #[v, .int .i64 cols] w fun e w' => ∃ v', e = .returned v' ∧ w'.ownsRow w.heap.size 3 1 v' (stF cs cols cs.length).1.length ((stF cs cols cs.length).1.map (Value.int .i64)) ∧ Ext w w' := by
  obtain ⟨ii, hii, hi0, hi1, hi2⟩ := info_parts infoInt
  obtain ⟨ra, ao, ca, rfl, hca, hra, hxa⟩ := hv
  obtain ⟨n, hn⟩ : ∃ n, n = cs.length := ⟨_, rfl⟩
  rw [← hn] at hca hra hxa hl ⊢
  have HXA := hide hxa
  clear hn hra hxa
  have HOK := hide (fun k => stF_ok cs cols k)
  go_enter Tryz.func178, Tryz.ntmps178
  go_wp2
  go_loopw [5, 6, 7] (fun o u i wr => ∃ (k : Nat), k ≤ n ∧ i = .int .i64 k ∧ u = .int .i64 (stF cs cols k).2 ∧ Hid (wr.ownsRow w.heap.size 3 1 o (stF cs cols k).1.length ((stF cs cols k).1.map (Value.int .i64))) ∧ Ext w wr) (fun _ _ i _ => n - (intOf i).toNat)
  case atStart =>
    refine ⟨0, Nat.zero_le _, rfl, rfl, ?_, (Ext.refl _).alloc _⟩
    exact hide (own_lit (w := w) .i64 [0] 3 w.heap.size 1 rfl (Nat.le_refl _) (by unfold maxLen; simp))
  case round =>
    obtain ⟨k, hk, rfl, rfl, HO, hext⟩ := hrel
    obtain ⟨S, hS⟩ : ∃ S, S = (stF cs cols k).1 := ⟨_, rfl⟩
    obtain ⟨u, hu⟩ : ∃ u, u = (stF cs cols k).2 := ⟨_, rfl⟩
    have hok := (unhide HOK) k
    have hst : Hid (stF cs cols (k + 1) = if at0 S (S.length - 1) < (k : Int) ∧ cols < u + cWd (cW cs k) then (S ++ [(k : Int)], cWd (cW cs k)) else (S, u + cWd (cW cs k))) := by
      show _ = _
      rw [hS, hu]; rfl
    rw [← hS] at HO hok
    rw [← hu] at hok ⊢
    have HS := hide hS
    have HU := hide hu
    clear hS hu
    by_cases hlt : k < n
    · have bk : (k : Int) < (n : Int) := by omega
      obtain ⟨b, off, rfl, hc⟩ := (unhide HXA) (by omega)
      have g1 := hext.cell (hc k hlt).1
      have g2 := hext.cell (hc k hlt).2
      have OC := hide (hc k hlt)
      clear hc
      obtain ⟨g, cap, rfl⟩ : ∃ g cap, u5 = .slice (some ⟨g, 0, none⟩) S.length cap := by
        rcases (unhide HO).2 with ⟨_, e⟩ | ⟨g, cap, cur, e, _⟩
        · have := hok.one; omega
        · exact ⟨g, cap, e⟩
      have h1 := hok.one
      have h2 := hok.len
      have h3 := hok.u0
      have h4 := hok.u1
      have hwd := cWd_bd (cW cs k)
      obtain ⟨m, hm⟩ : ∃ m, S.length = m + 1 := ⟨S.length - 1, by omega⟩
      obtain ⟨L, hL⟩ : ∃ L, L = at0 S m := ⟨_, rfl⟩
      have cL : wr.cell? ⟨g, m, none⟩ = some (.int .i64 L) := by
        rw [(unhide HO).cellAt m (by omega), hL]
        simp [at0_lt (show m < S.length by omega)]
      have hb := hok.le m (by omega)
      rw [← hL] at hb
      rw [show S.length - 1 = m by omega, ← hL] at hst
      rw [hm] at HO ⊢
      have hmb : m ≤ k := by omega
      have HLN := hide hm
      clear hL hok hm
      have hw1 : IntKind.i64.wrap (((m + 1 : Nat) : Int) - 1) = (m : Int) := by rw [IntKind.wrap_i64]; omega
      have hw1b : IntKind.i64.wrap ((m : Int) + 1 - 1) = (m : Int) := by rw [IntKind.wrap_i64]; omega
      have hw2 : IntKind.i64.wrap (u + cWd (cW cs k)) = u + cWd (cW cs k) := by rw [IntKind.wrap_i64]; omega
      have hw3 : ((m : Int) + 1 - 1) = (m : Int) := by omega
      have hmm : (m : Int) < (m : Int) + 1 := by omega
      by_cases hlk : L < (k : Int)
      · go_wp2_with fail
        refine (l1Wide_any _ _ _).mono ?_
        rintro e w1 ⟨rfl, F1⟩
        have q1 := F1.cell g1
        have q2 := F1.cell g2
        have E1 := hext.trans F1
        have z1 := E1.size
        by_cases hov : cols < u + cWd (cW cs k)
        · have hs1 : Hid (stF cs cols (k + 1) = (S ++ [(k : Int)], cWd (cW cs k))) := by show _ = _; rw [hst.out, if_pos ⟨hlk, hov⟩]
          have HY := hide (((Ext.refl w1).alloc (.cells #[.int .i64 (k : Int)] 3)).owns (F1.owns (unhide HO)))
          have r1 := fun o => ((Ext.refl w1).alloc o).cell q1
          have r2 := fun o => ((Ext.refl w1).alloc o).cell q2
          go_wp2_with (at_builtin; go_must (refine wpList_append_own _ rfl _ _ 210 rfl w.heap.size 3 ii (.int .i64 0) 1 8 Tryz.underlying210 hii hi0 hi1 hi2 rfl (by decide) _ _ _ rfl (unhide HY) ⟨w1.heap.size, 0, none⟩ 1 1 [.int .i64 (k : Int)] rfl rfl ?_ (by simp [Value.oneCell']) ?_ ?_ ?_ ?_))
          · exact news_cells (w := w1) [.int .i64 (k : Int)] 3
          · unfold maxLen; omega
          · omega
          · simp; omega
          · intro v' w3 hown' hgrow _
            have E3 : Ext w w3 := (E1.alloc _).grown hgrow (fun q hq => ((unhide HY).lt q hq).1)
            have HO3 : Hid (w3.ownsRow w.heap.size 3 1 v' (S ++ [(k : Int)]).length ((S ++ [(k : Int)]).map (Value.int .i64))) := by
              refine hide ?_
              rw [List.length_append, unhide HLN, List.map_append]
              exact hown'
            clear hown' hgrow r1 r2 q1 q2 g1 g2
            have g1 := E3.cell (unhide OC).1
            have g2 := E3.cell (unhide OC).2
            go_wp2_with fail
            refine (l1Wide_any _ _ _).mono ?_
            rintro e w4 ⟨rfl, F4⟩
            have HO4 := hide (F4.owns (unhide HO3))
            go_wp2
            go_roundw
            case rel => exact ⟨k + 1, by omega, by go_num, by rw [hs1.out], by rw [hs1.out]; exact HO4, E3.trans F4⟩
            case measure => simp [intOf]; omega
        · have hs1 : Hid (stF cs cols (k + 1) = (S, u + cWd (cW cs k))) := by show _ = _; rw [hst.out, if_neg (fun h => hov h.2)]
          go_wp2_with fail
          refine (l1Wide_any _ _ _).mono ?_
          rintro e w2 ⟨rfl, F2⟩
          have HO2 := hide ((F1.trans F2).owns (unhide HO))
          go_wp2
          go_roundw
          case rel => exact ⟨k + 1, by omega, by go_num, by rw [hs1.out], by rw [hs1.out, unhide HLN]; exact HO2, E1.trans F2⟩
          case measure => simp [intOf]; omega
      · have hs1 : Hid (stF cs cols (k + 1) = (S, u + cWd (cW cs k))) := by show _ = _; rw [hst.out, if_neg (fun h => hlk h.1)]
        go_wp2_with fail
        refine (l1Wide_any _ _ _).mono ?_
        rintro e w2 ⟨rfl, F2⟩
        have HO2 := hide (F2.owns (unhide HO))
        go_wp2
        go_roundw
        case rel => exact ⟨k + 1, by omega, by go_num, by rw [hs1.out], by rw [hs1.out, unhide HLN]; exact HO2, hext.trans F2⟩
        case measure => simp [intOf]; omega
    · obtain rfl : k = n := by omega
      rw [unhide HS] at HO
      go_wp2
      go_ret
      exact ⟨_, rfl, unhide HO, hext⟩
end Go.Proofs.YteabhioifedgeaaGreatDoor
