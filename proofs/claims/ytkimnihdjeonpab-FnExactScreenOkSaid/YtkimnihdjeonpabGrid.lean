import Derived.Test.YtkimnihdjeonpabCells
namespace Go.Proofs.Ytkimnihdjeonpab
open Go.RowKit
def GridAt (w : World) (v : Value) (R : Nat) (C : Nat → Nat) (A B : Nat → Nat → Value) : Prop :=
  ∃ rv : Nat → Value, Row1At w v R rv ∧ ∀ i, i < R → Row2At w (rv i) (C i) (A i) (B i)
theorem GridAt.ext {w w' : World} {v : Value} {R : Nat} {C : Nat → Nat} {A B : Nat → Nat → Value} (h : GridAt w v R C A B) (he : Ext w w') : GridAt w' v R C A B := by
  obtain ⟨rv, h1, h2⟩ := h
  exact ⟨rv, h1.ext he, fun i hi => (h2 i hi).ext he⟩
def OwnGrid (w : World) (base : Nat) (v : Value) (rv : Nat → Value) (R : Nat) (C : Nat → Nat) (A B : Nat → Nat → Value) : Prop :=
  Own1 w base 63 v R rv ∧ (∀ i, i < R → Own2 w base 74 (rv i) (C i) (A i) (B i)) ∧ (∀ i j g, i < j → j < R → (rv i).ownBlock = some g → (rv j).ownBlock ≠ some g)
def GFoot (v : Value) (rv : Nat → Value) (R : Nat) (g : Nat) : Prop := v.ownBlock = some g ∨ ∃ i, i < R ∧ (rv i).ownBlock = some g
section
variable {w w' : World} {base : Nat} {v : Value} {rv : Nat → Value} {R : Nat} {C : Nat → Nat} {A B : Nat → Nat → Value}
theorem OwnGrid.ext (h : OwnGrid w base v rv R C A B) (he : Ext w w') : OwnGrid w' base v rv R C A B := ⟨h.1.ext he, fun i hi => (h.2.1 i hi).ext he, h.2.2⟩
theorem OwnGrid.reads (h : OwnGrid w base v rv R C A B) : GridAt w v R C A B := ⟨rv, h.1.reads, fun i hi => (h.2.1 i hi).reads⟩
theorem OwnGrid.foot (h : OwnGrid w base v rv R C A B) {g : Nat} (hg : GFoot v rv R g) : base ≤ g ∧ g < w.heap.size := by
  rcases hg with hg | ⟨i, hi, hg⟩
  · exact h.1.lt g hg
  · exact (h.2.1 i hi).lt g hg
theorem OwnGrid.fr {S : Nat → Prop} (h : OwnGrid w base v rv R C A B) (hf : Fr S w w') (hS : ∀ g, GFoot v rv R g → ¬ S g) : OwnGrid w' base v rv R C A B :=
  ⟨h.1.fr hf (fun g hg => hS g (.inl hg)), fun i hi => (h.2.1 i hi).fr hf (fun g hg => hS g (.inr ⟨i, hi, hg⟩)), h.2.2⟩
theorem OwnGrid.apart (h : OwnGrid w base v rv R C A B) {i g : Nat} (hi : i < R) (hg : (rv i).ownBlock = some g) : v.ownBlock ≠ some g := by
  obtain ⟨ys, h1, _⟩ := h.1
  obtain ⟨zs, h2, _⟩ := h.2.1 i hi
  exact owns_apart h2 h1 (by decide) hg
theorem OwnGrid.row {A' B' : Nat → Value} {j : Nat} (h : OwnGrid w base v rv R C A B) (hj : j < R) (ho : Own2 w' base 74 (rv j) (C j) A' B') (hf : Fr (fun g => (rv j).ownBlock = some g) w w') :
    OwnGrid w' base v rv R C (fun i => if i = j then A' else A i) (fun i => if i = j then B' else B i) := by
  refine ⟨h.1.fr hf (fun g hg e => h.apart hj e hg), fun i hi => ?_, h.2.2⟩
  dsimp only
  by_cases e : i = j
  · subst e; rw [if_pos rfl, if_pos rfl]; exact ho
  · rw [if_neg e, if_neg e]
    refine (h.2.1 i hi).fr hf (fun g hg e2 => ?_)
    rcases Nat.lt_or_gt_of_ne e with h5 | h5
    · exact h.2.2 i j g h5 hj hg e2
    · exact h.2.2 j i g h5 hi e2 hg
theorem OwnGrid.congr {A' B' : Nat → Nat → Value} (h : OwnGrid w base v rv R C A B) (e : ∀ i, i < R → A i = A' i ∧ B i = B' i) : OwnGrid w base v rv R C A' B' :=
  ⟨h.1, fun i hi => by rw [← (e i hi).1, ← (e i hi).2]; exact h.2.1 i hi, h.2.2⟩
end
set_option maxHeartbeats 1000000 in
theorem eqCellSS_same (va vb : Value) (R : Nat) (C : Nat → Nat) (tx : Nat → Nat → ByteArray) (hf : Nat → Nat → Bool) (w : World) (ha : GridAt w va R C (fun i j => .string (tx i j)) (fun i j => .bool (hf i j))) (hb : GridAt w vb R C (fun i j => .string (tx i j)) (fun i j => .bool (hf i j))) (hl : R ≤ 4398046511104) (hC : ∀ i, i < R → C i ≤ 4398046511104) :
    Calls Try.prog 37 #[va, vb] w fun e w' => e = .returned (.bool true) ∧ Ext w w' := by
  obtain ⟨ra, ⟨ao, ca, rfl, hca, hxa⟩, hra⟩ := ha
  obtain ⟨rb, ⟨bo, cb, rfl, hcb, hxb⟩, hrb⟩ := hb
  by_cases h0 : R = 0
  · subst h0
    clear hxa hxb
    go_enter Try.func37, Try.ntmps37
    go_wp2
    go_loop [5] (fun i => i = .int .i64 0) (fun _ => 0)
    case atStart => rfl
    case round =>
      subst hrel
      go_wp2
      go_ret
      exact ⟨rfl, Ext.refl _⟩
  · obtain ⟨b1, o1, rfl, h1⟩ := hxa (by omega)
    obtain ⟨b2, o2, rfl, h2⟩ := hxb (by omega)
    clear hxa hxb
    have H1 := hide h1
    have H2 := hide h2
    have HA := hide hra
    have HB := hide hrb
    have HC := hide hC
    clear h1 h2 hra hrb hC
    go_enter Try.func37, Try.ntmps37
    go_wp2
    go_loopw [5] (fun i w' => ∃ k : Nat, k ≤ R ∧ i = .int .i64 k ∧ Ext w w') (fun i _ => R - (intOf i).toNat)
    case atStart => exact ⟨0, Nat.zero_le _, rfl, Ext.refl _⟩
    case round =>
      obtain ⟨k, hk, rfl, hext⟩ := hrel
      by_cases hlt : k < R
      · have g1 := hext.cell ((unhide H1) k hlt)
        have g3 := hext.cell ((unhide H2) k hlt)
        have bk : (k : Int) < (R : Int) := by omega
        have hc := hide (fun W (hW : Ext wr W) => eqCellS_same (ra k) (rb k) (C k) (tx k) (hf k) W (((unhide HA) k hlt).ext (hext.trans hW)) (((unhide HB) k hlt).ext (hext.trans hW)) ((unhide HC) k hlt))
        go_wp2
        go_region_held3 (fun W => Ext wr W ∧ W.cell? ⟨b1, o1 + k, none⟩ = some (ra k) ∧ W.cell? ⟨b2, o2 + k, none⟩ = some (rb k)) (first | exact ⟨(Ext.refl wr).drew, g1, g3⟩ | exact ⟨(Ext.refl wr).drew.trans he', he'.cell g1, he'.cell g3⟩) (first | (go_at_call 62; refine ((unhide hc) _ (Ext.refl wr).drew).mono ?_; rintro e w' ⟨rfl, he'⟩))
        rename_i hS
        have hE := hext.trans hS.1
        clear hS g1 g3
        go_wp2
        go_roundw
        case rel => exact ⟨k + 1, by omega, by go_num, hE⟩
        case measure => simp [intOf]; omega
      · go_wp2
        go_ret
        exact ⟨rfl, hext⟩
end Go.Proofs.Ytkimnihdjeonpab
