import Derived.Test.YtkimnihdjeonpabRows12
namespace Go.Proofs.Ytkimnihdjeonpab
open Go.RowKit
def CssAt (w : World) (v : Value) (R : Nat) (cs : Nat → List (List Int × Int)) : Prop :=
  ∃ rv : Nat → Value, Row1At w v R rv ∧ ∀ i, i < R → ClsAt w (rv i) (cs i)
theorem CssAt.ext {w w' : World} {v : Value} {R : Nat} {cs : Nat → List (List Int × Int)} (h : CssAt w v R cs) (he : Ext w w') : CssAt w' v R cs := by
  obtain ⟨rv, h1, h2⟩ := h
  exact ⟨rv, h1.ext he, fun i hi => (h2 i hi).ext he⟩
def OwnCss (w : World) (base : Nat) (v : Value) (rv : Nat → Value) (rs : Nat → List Value) (R : Nat) (cs : Nat → List (List Int × Int)) : Prop :=
  Own1 w base 26 v R rv ∧ (∀ i, i < R → OwnCls w base (rv i) (rs i) (cs i)) ∧ (∀ i j g, i < j → j < R → Foot (rv i) (rs i) (cs i).length g → ¬ Foot (rv j) (rs j) (cs j).length g)
def CFoot (v : Value) (rv : Nat → Value) (rs : Nat → List Value) (R : Nat) (cs : Nat → List (List Int × Int)) (g : Nat) : Prop := v.ownBlock = some g ∨ ∃ i, i < R ∧ Foot (rv i) (rs i) (cs i).length g
section
variable {w w' : World} {base : Nat} {v : Value} {rv : Nat → Value} {rs : Nat → List Value} {R : Nat} {cs : Nat → List (List Int × Int)}
theorem OwnCss.ext (h : OwnCss w base v rv rs R cs) (he : Ext w w') : OwnCss w' base v rv rs R cs := ⟨h.1.ext he, fun i hi => (h.2.1 i hi).ext he, h.2.2⟩
theorem OwnCss.reads (h : OwnCss w base v rv rs R cs) : CssAt w v R cs := ⟨rv, h.1.reads, fun i hi => (h.2.1 i hi).cls⟩
theorem OwnCss.foot (h : OwnCss w base v rv rs R cs) {g : Nat} (hg : CFoot v rv rs R cs g) : base ≤ g ∧ g < w.heap.size := by
  rcases hg with hg | ⟨i, hi, hg⟩
  · exact h.1.lt g hg
  · exact (h.2.1 i hi).foot hg
theorem OwnCss.fr {S : Nat → Prop} (h : OwnCss w base v rv rs R cs) (hf : Fr S w w') (hS : ∀ g, CFoot v rv rs R cs g → ¬ S g) : OwnCss w' base v rv rs R cs :=
  ⟨h.1.fr hf (fun g hg => hS g (.inl hg)), fun i hi => (h.2.1 i hi).fr hf (fun g hg => hS g (.inr ⟨i, hi, hg⟩)), h.2.2⟩
theorem cls_apart {xs : List Value} {n : Nat} {v r : Value} {rr : List Value} {c : List (List Int × Int)} {base' : Nat} (h1 : w.ownsRow base 26 1 v n xs) (h2 : OwnCls w base' r rr c) {g : Nat} (hg : Foot r rr c.length g) : v.ownBlock ≠ some g := by
  obtain ⟨_, ⟨ys, h3, _⟩, h4, _⟩ := h2
  rcases hg with hg | ⟨j, hj, hg⟩
  · exact owns_apart h3 h1 (by decide) hg
  · exact owns_apart (h4 j hj) h1 (by decide) hg
theorem OwnCss.apart (h : OwnCss w base v rv rs R cs) {i g : Nat} (hi : i < R) (hg : Foot (rv i) (rs i) (cs i).length g) : v.ownBlock ≠ some g := by
  obtain ⟨ys, h1, _⟩ := h.1
  exact cls_apart h1 (h.2.1 i hi) hg
theorem OwnCss.row {c' : List (List Int × Int)} {j : Nat} (h : OwnCss w base v rv rs R cs) (hj : j < R) (hl : c'.length = (cs j).length) (ho : OwnCls w' base (rv j) (rs j) c') (hf : Fr (Foot (rv j) (rs j) (cs j).length) w w') :
    OwnCss w' base v rv rs R (fun i => if i = j then c' else cs i) := by
  have hlen : ∀ i, (if i = j then c' else cs i).length = (cs i).length := fun i => by
    by_cases e : i = j
    · subst e; rw [if_pos rfl, hl]
    · rw [if_neg e]
  refine ⟨h.1.fr hf (fun g hg e => h.apart hj e hg), fun i hi => ?_, fun i i' g hii hi' h1 => ?_⟩
  · dsimp only
    by_cases e : i = j
    · subst e; rw [if_pos rfl]; exact ho
    · rw [if_neg e]
      refine (h.2.1 i hi).fr hf (fun g hg e2 => ?_)
      rcases Nat.lt_or_gt_of_ne e with h5 | h5
      · exact h.2.2 i j g h5 hj hg e2
      · exact h.2.2 j i g h5 hi e2 hg
  · rw [hlen] at h1 ⊢
    exact h.2.2 i i' g hii hi' h1
theorem OwnCls.mono {base' : Nat} {r : Value} {rr : List Value} {c : List (List Int × Int)} (h : OwnCls w base r rr c) (hb : base' ≤ base) : OwnCls w base' r rr c := by
  obtain ⟨h0, ⟨ys, h1, h2⟩, h3, h4⟩ := h
  exact ⟨h0, ⟨ys, owns_mono h1 hb, h2⟩, fun j hj => owns_mono (h3 j hj) hb, h4⟩
theorem OwnCss.push {v' r : Value} {rr : List Value} {c : List (List Int × Int)} {ys : List Value} (h : OwnCss w base v rv rs R cs) (hy : w.ownsRow base 26 1 v R ys) (hyy : ∀ j, j < R → ys[j]? = some (rv j))
    (hr : OwnCls w base r rr c) (hap : ∀ i g, i < R → Foot (rv i) (rs i) (cs i).length g → ¬ Foot r rr c.length g) (ho : w'.ownsRow base 26 1 v' (R + 1) (ys ++ [r])) (hg : w.grownBy w' v.ownBlock) :
    OwnCss w' base v' (fun i => if i = R then r else rv i) (fun i => if i = R then rr else rs i) (R + 1) (fun i => if i = R then c else cs i) := by
  have fr : Fr (fun k => v.ownBlock = some k) w w' := (Fr.refl _ _).grown hg (fun k hk => hk)
  refine ⟨own1_push (by have := hy.1; omega) hyy ho, fun i hi => ?_, fun i j g hij hj h1 => ?_⟩
  · dsimp only
    by_cases e : i = R
    · subst e; rw [if_pos rfl, if_pos rfl, if_pos rfl]
      exact hr.fr fr (fun g hg e => cls_apart hy hr hg e)
    · rw [if_neg e, if_neg e, if_neg e]
      exact (h.2.1 i (by omega)).fr fr (fun g hg e => h.apart (by omega) hg e)
  · dsimp only at h1 ⊢
    rw [if_neg (by omega), if_neg (by omega), if_neg (by omega)] at h1
    by_cases e : j = R
    · subst e; rw [if_pos rfl, if_pos rfl, if_pos rfl]
      exact hap i g (by omega) h1
    · rw [if_neg e, if_neg e, if_neg e]
      exact h.2.2 i j g hij (by omega) h1
theorem OwnCss.congr {cs' : Nat → List (List Int × Int)} (h : OwnCss w base v rv rs R cs) (e : ∀ i, i < R → cs i = cs' i) : OwnCss w base v rv rs R cs' :=
  ⟨h.1, fun i hi => by rw [← e i hi]; exact h.2.1 i hi, fun i j g hij hj h1 => by rw [← e i (by omega)] at h1; rw [← e j hj]; exact h.2.2 i j g hij hj h1⟩
end
set_option maxHeartbeats 1000000 in
theorem eqClusterSS_same (va vb : Value) (R : Nat) (cs : Nat → List (List Int × Int)) (w : World) (ha : CssAt w va R cs) (hb : CssAt w vb R cs) (hl : R ≤ 4398046511104) (hC : ∀ i, i < R → (cs i).length ≤ 4398046511104 ∧ ∀ j, j < (cs i).length → (cR (cs i) j).length ≤ 4398046511104) :
    Calls Try.prog 10 #[va, vb] w fun e w' => e = .returned (.bool true) ∧ Ext w w' := by
  obtain ⟨ra, ⟨ao, ca, rfl, hca, hxa⟩, hra⟩ := ha
  obtain ⟨rb, ⟨bo, cb, rfl, hcb, hxb⟩, hrb⟩ := hb
  by_cases h0 : R = 0
  · subst h0
    clear hxa hxb
    go_enter Try.func10, Try.ntmps10
    go_wp2
    go_loop [5] (fun i => i = .int .i64 0) (fun _ => 0)
    case atStart => rfl
    case round =>
      subst hrel
      go_wp2
      go_ret
      exact ⟨rfl, Ext.refl _⟩
  · obtain ⟨b1, o1, rfl, h1⟩ := hxa (by omega)
    obtain ⟨b2, o2, rfl, h2⟩ := hxb (by omega)
    clear hxa hxb
    have H1 := hide h1
    have H2 := hide h2
    have HA := hide hra
    have HB := hide hrb
    have HC := hide hC
    clear h1 h2 hra hrb hC
    go_enter Try.func10, Try.ntmps10
    go_wp2
    go_loopw [5] (fun i w' => ∃ k : Nat, k ≤ R ∧ i = .int .i64 k ∧ Ext w w') (fun i _ => R - (intOf i).toNat)
    case atStart => exact ⟨0, Nat.zero_le _, rfl, Ext.refl _⟩
    case round =>
      obtain ⟨k, hk, rfl, hext⟩ := hrel
      by_cases hlt : k < R
      · have g1 := hext.cell ((unhide H1) k hlt)
        have g3 := hext.cell ((unhide H2) k hlt)
        have bk : (k : Int) < (R : Int) := by omega
        have hc := hide (fun W (hW : Ext wr W) => eqClusterS_same (ra k) (rb k) (cs k) W (((unhide HA) k hlt).ext (hext.trans hW)) (((unhide HB) k hlt).ext (hext.trans hW)) ((unhide HC) k hlt).1 ((unhide HC) k hlt).2)
        go_wp2
        go_region_held3 (fun W => Ext wr W ∧ W.cell? ⟨b1, o1 + k, none⟩ = some (ra k) ∧ W.cell? ⟨b2, o2 + k, none⟩ = some (rb k)) (first | exact ⟨(Ext.refl wr).drew, g1, g3⟩ | exact ⟨(Ext.refl wr).drew.trans he', he'.cell g1, he'.cell g3⟩) (first | (go_at_call 11; refine ((unhide hc) _ (Ext.refl wr).drew).mono ?_; rintro e w' ⟨rfl, he'⟩))
        rename_i hS
        have hE := hext.trans hS.1
        clear hS g1 g3
        go_wp2
        go_roundw
        case rel => exact ⟨k + 1, by omega, by go_num, hE⟩
        case measure => simp [intOf]; omega
      · go_wp2
        go_ret
        exact ⟨rfl, hext⟩
def gkC (k : Int) (cs : Nat → List (List Int × Int)) : Nat → Int
  | 0 => k
  | i + 1 => kkC (gkC k cs i) (cs i) (cs i).length
def SmallC (k : Int) (cs : Nat → List (List Int × Int)) (R : Nat) : Prop := ∀ i, i < R → Small (gkC k cs i) (cs i) ∧ (cs i).length ≤ 4398046511104 ∧ ∀ j, j < (cs i).length → (cR (cs i) j).length ≤ 4398046511104
theorem SmallC.pos {k : Int} {cs : Nat → List (List Int × Int)} {R : Nat} (h : SmallC k cs R) {i : Nat} (hi : i < R) : 0 ≤ gkC k cs (i + 1) := ((h i hi).1 _ (Nat.le_refl _)).1
set_option maxHeartbeats 1000000 in
theorem markClusterSS_any (base : Nat) (v : Value) (rv : Nat → Value) (rs : Nat → List Value) (R : Nat) (cs : Nat → List (List Int × Int)) (k : Int) (w : World) (hv : OwnCss w base v rv rs R cs) (hn : R ≤ 4398046511104) (hS : SmallC k cs R) :
    Calls Try.prog 13 #[v, .int .i64 k] w fun e w' => e = .returned (.int .i64 (gkC k cs R)) ∧ OwnCss w' base v rv rs R (fun i => mkCls (gkC k cs i) (cs i)) ∧ Fr (CFoot v rv rs R cs) w w' := by
  have HV := hide hv
  have HSM := hide hS
  rcases hv.1.form with ⟨rfl, h0⟩ | ⟨g, cap, rfl⟩
  · subst h0
    clear hv hS
    have hk0 : Hid (gkC k cs 0 = k) := rfl
    rw [hk0.out]
    go_enter Try.func13, Try.ntmps13
    go_wp2
    go_loop [1, 5] (fun a i => a = .int .i64 k ∧ i = .int .i64 0) (fun _ _ => 0)
    case atStart => exact ⟨rfl, rfl⟩
    case round =>
      obtain ⟨rfl, rfl⟩ := hrel
      go_wp2
      go_ret
      exact ⟨rfl, (unhide HV).congr (fun i hi => by omega), Fr.refl _ _⟩
  · clear hv hS
    go_enter Try.func13, Try.ntmps13
    go_wp2
    go_loopw [1, 5] (fun a i wr => ∃ j : Nat, j ≤ R ∧ a = .int .i64 (gkC k cs j) ∧ i = .int .i64 j ∧ Hid (OwnCss wr base (.slice (some ⟨g, 0, none⟩) R cap) rv rs R (fun i => if i < j then mkCls (gkC k cs i) (cs i) else cs i)) ∧ Hid (Fr (CFoot (.slice (some ⟨g, 0, none⟩) R cap) rv rs R cs) w wr)) (fun _ i _ => R - (intOf i).toNat)
    case atStart => exact ⟨0, Nat.zero_le _, rfl, rfl, (unhide HV).congr (fun i hi => by simp), Fr.refl _ _⟩
    case round =>
      obtain ⟨j, hj, rfl, rfl, HO, HF⟩ := hrel
      by_cases hlt : j < R
      · have bj : (j : Int) < (R : Int) := by omega
        have c0 := ((unhide HO).1.cell hlt).1
        have hst : Hid (gkC k cs (j + 1) = kkC (gkC k cs j) (cs j) (cs j).length) := rfl
        have hsm := (unhide HSM) j hlt
        have hrow := (unhide HO).2.1 j hlt
        dsimp only at hrow
        rw [if_neg (by omega)] at hrow
        have hcon := hide (markClusterS_any base (rv j) (rs j) (cs j) (gkC k cs j) wr hrow hsm.2.1 hsm.2.2 hsm.1)
        rw [← hst.out] at hcon
        clear hsm hrow
        go_wp2_with fail
        refine (unhide hcon).mono ?_
        rintro e w1 ⟨rfl, ho, hf⟩
        have HS := hide (((unhide HO).row (c' := mkCls (gkC k cs j) (cs j)) hlt (by rw [if_neg (by omega), mkCls_len]) ho (by rw [if_neg (by omega)]; exact hf)).congr (cs' := fun i => if i < j + 1 then mkCls (gkC k cs i) (cs i) else cs i) (fun i hi => by
          by_cases e : i = j
          · subst e
            rw [if_pos rfl, if_pos (by omega)]
          · rw [if_neg e]
            by_cases e2 : i < j
            · rw [if_pos e2, if_pos (by omega)]
            · rw [if_neg e2, if_neg (by omega)]))
        have HF2 : Hid (Fr (CFoot (.slice (some ⟨g, 0, none⟩) R cap) rv rs R cs) w w1) := by
          have h1 := unhide HF
          exact ⟨hf.os.trans h1.os, hf.tape.trans h1.tape, hf.output.trans h1.output, Nat.le_trans h1.size hf.size, fun q hq hn => (hf.block q (Nat.lt_of_lt_of_le hq h1.size) (fun e => hn (.inr ⟨j, hlt, e⟩))).trans (h1.block q hq hn)⟩
        clear ho hf
        go_wp2
        go_roundw
        case rel => exact ⟨j + 1, by omega, rfl, by go_num, HS, HF2⟩
        case measure => simp [intOf]; omega
      · obtain rfl : j = R := by omega
        have HFIN := hide ((unhide HO).congr (cs' := fun i => mkCls (gkC k cs i) (cs i)) (fun i hi => by simp [hi]))
        go_wp2
        go_ret
        exact ⟨rfl, unhide HFIN, unhide HF⟩
set_option maxHeartbeats 1000000 in
theorem heldClusterSS_any (v : Value) (R : Nat) (cs : Nat → List (List Int × Int)) (k : Int) (w : World) (hv : CssAt w v R (fun i => mkCls (gkC k cs i) (cs i))) (hn : R ≤ 4398046511104) (hS : SmallC k cs R) :
    Calls Try.prog 14 #[v, .int .i64 k] w fun e w' => e = .returned (.int .i64 (gkC k cs R)) ∧ Ext w w' := by
  obtain ⟨rv, ⟨ao, ca, rfl, hca, hxa⟩, hr⟩ := hv
  have HR := hide hr
  have HSM := hide hS
  have HXA := hide hxa
  clear hr hS hxa
  by_cases h0 : R = 0
  · subst h0
    have hk0 : Hid (gkC k cs 0 = k) := rfl
    rw [hk0.out]
    go_enter Try.func14, Try.ntmps14
    go_wp2
    go_loop [1, 5] (fun a i => a = .int .i64 k ∧ i = .int .i64 0) (fun _ _ => 0)
    case atStart => exact ⟨rfl, rfl⟩
    case round =>
      obtain ⟨rfl, rfl⟩ := hrel
      go_wp2
      go_ret
      exact ⟨rfl, Ext.refl _⟩
  · obtain ⟨b, off, rfl, hc⟩ := (unhide HXA) (by omega)
    have HCL := hide hc
    clear HXA hc
    go_enter Try.func14, Try.ntmps14
    go_wp2
    go_loopw [1, 5] (fun a i wr => ∃ j : Nat, j ≤ R ∧ a = .int .i64 (gkC k cs j) ∧ i = .int .i64 j ∧ Ext w wr) (fun _ i _ => R - (intOf i).toNat)
    case atStart => exact ⟨0, Nat.zero_le _, rfl, rfl, Ext.refl _⟩
    case round =>
      obtain ⟨j, hj, rfl, rfl, hext⟩ := hrel
      by_cases hlt : j < R
      · have bj : (j : Int) < (R : Int) := by omega
        have g1 := hext.cell ((unhide HCL) j hlt)
        have hsm := (unhide HSM) j hlt
        have hst : Hid (gkC k cs (j + 1) = kkC (gkC k cs j) (cs j) (cs j).length) := rfl
        have hcon := hide (heldClusterS_any (rv j) (cs j) (gkC k cs j) wr (((unhide HR) j hlt).ext hext) hsm.2.1 hsm.2.2 hsm.1)
        rw [← hst.out] at hcon
        have hneg : ¬ gkC k cs (j + 1) < 0 := by have := (unhide HSM).pos hlt; omega
        clear hsm
        go_wp2_with fail
        refine (unhide hcon).mono ?_
        rintro e w1 ⟨rfl, he⟩
        have hE := hext.trans he
        go_wp2
        go_roundw
        case rel => exact ⟨j + 1, by omega, rfl, by go_num, hE⟩
        case measure => simp [intOf]; omega
      · obtain rfl : j = R := by omega
        go_wp2
        go_ret
        exact ⟨rfl, hext⟩
end Go.Proofs.Ytkimnihdjeonpab
