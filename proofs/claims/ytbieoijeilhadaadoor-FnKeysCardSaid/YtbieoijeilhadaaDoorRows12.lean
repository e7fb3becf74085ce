import Derived.Test.YtbieoijeilhadaaDoorClsGrow
namespace Go.Proofs.YtbieoijeilhadaaDoor
open Go.RowKit
structure Fr (S : Nat → Prop) (w w' : World) : Prop where
  os : w'.os = w.os
  tape : w'.tape = w.tape
  output : w'.output = w.output
  size : w.heap.size ≤ w'.heap.size
  block : ∀ k, k < w.heap.size → ¬ S k → w'.heap[k]? = w.heap[k]?
theorem Fr.refl (S : Nat → Prop) (w : World) : Fr S w w := ⟨rfl, rfl, rfl, Nat.le_refl _, fun _ _ _ => rfl⟩
theorem Fr.grown {S : Nat → Prop} {w W w3 : World} {row : Option Nat} (h : Fr S w W) (hg : W.grownBy w3 row) (hrow : ∀ k, row = some k → S k) : Fr S w w3 :=
  ⟨hg.os.trans h.os, hg.tape.trans h.tape, hg.output.trans h.output, Nat.le_trans h.size hg.size, fun i hi hn => (hg.block i (Nat.lt_of_lt_of_le hi h.size) (fun e => hn (hrow i e.symm))).trans (h.block i hi hn)⟩
theorem Fr.setCell {S : Nat → Prop} {w W : World} (h : Fr S w W) {a : Addr} (ha : S a.block) (u : Value) : Fr S w (W.setCell a u) :=
  h.grown (row := some a.block) ⟨rfl, rfl, rfl, by simp, fun k _ hk => Below.heap_setCell _ _ _ _ (fun e => hk (by rw [e]))⟩ (fun k hk => by simp at hk; subst hk; exact ha)
theorem Fr.ext {S : Nat → Prop} {w w' : World} (h : Fr S w w') {w0 : World} (h0 : Ext w0 w) (hS : ∀ k, S k → w0.heap.size ≤ k) : Ext w0 w' :=
  ⟨h.os.trans h0.os, h.tape.trans h0.tape, h.output.trans h0.output, Nat.le_trans h0.size h.size, fun i hi hn => (h.block i (Nat.lt_of_lt_of_le hi h0.size) (fun e => by have := hS i e; omega)).trans (h0.block i hi hn)⟩
theorem Fr.owns {S : Nat → Prop} {w w' : World} (h : Fr S w w') {base : Nat} {e : TypeId} {size : Nat} {v : Value} {n : Nat} {xs : List Value} (ho : w.ownsRow base e size v n xs) (hS : ∀ g, v.ownBlock = some g → ¬ S g) : w'.ownsRow base e size v n xs :=
  owns_same ho (fun g hg => h.block g (ho.lt g hg).2 (hS g hg))
theorem Fr.of_ext {S : Nat → Prop} {a b : World} (h : Ext a b) : Fr S a b := ⟨h.os, h.tape, h.output, h.size, fun _ hi _ => h.heap hi⟩
theorem Fr.mono {S S' : Nat → Prop} {a b : World} (h : Fr S a b) (hs : ∀ k, S k → S' k) : Fr S' a b := ⟨h.os, h.tape, h.output, h.size, fun i hi hn => h.block i hi (fun e => hn (hs i e))⟩
def Foot (v : Value) (rs : List Value) (n : Nat) (g : Nat) : Prop := v.ownBlock = some g ∨ ∃ j, j < n ∧ (rV rs j).ownBlock = some g
theorem OwnCls.fr {S : Nat → Prop} {w w' : World} {base : Nat} {v : Value} {rs : List Value} {cs : List (List Int × Int)} (h : OwnCls w base v rs cs) (hf : Fr S w w') (hS : ∀ g, Foot v rs cs.length g → ¬ S g) : OwnCls w' base v rs cs := by
  obtain ⟨h0, ⟨ys, h1, h2⟩, h3, h4⟩ := h
  exact ⟨h0, ⟨ys, hf.owns h1 (fun g hg => hS g (.inl hg)), h2⟩, fun j hj => hf.owns (h3 j hj) (fun g hg => hS g (.inr ⟨j, hj, hg⟩)), h4⟩
theorem OwnCls.foot {w : World} {base : Nat} {v : Value} {rs : List Value} {cs : List (List Int × Int)} (h : OwnCls w base v rs cs) {g : Nat} (hg : Foot v rs cs.length g) : base ≤ g ∧ g < w.heap.size := by
  obtain ⟨h0, ⟨ys, h1, h2⟩, h3, h4⟩ := h
  rcases hg with hg | ⟨j, hj, hg⟩
  · exact h1.lt g hg
  · exact (h3 j hj).lt g hg
end Go.Proofs.YtbieoijeilhadaaDoor

namespace Go.Proofs.YtbieoijeilhadaaDoor
open Go.RowKit
def Row1At (w : World) (v : Value) (n : Nat) (A : Nat → Value) : Prop :=
  ∃ ao cap, v = .slice ao n cap ∧ n ≤ cap ∧ (0 < n → ∃ b off, ao = some ⟨b, off, none⟩ ∧ ∀ j, j < n → w.cell? ⟨b, off + j, none⟩ = some (A j))
def Row2At (w : World) (v : Value) (n : Nat) (A B : Nat → Value) : Prop :=
  ∃ ao cap, v = .slice ao n cap ∧ n ≤ cap ∧ (0 < n → ∃ b off, ao = some ⟨b, off, none⟩ ∧ ∀ j, j < n → w.cell? ⟨b, off + j * 2, none⟩ = some (A j) ∧ w.cell? ⟨b, off + j * 2 + 1, none⟩ = some (B j))
theorem Row1At.ext {w w' : World} {v : Value} {n : Nat} {A : Nat → Value} (h : Row1At w v n A) (he : Ext w w') : Row1At w' v n A := by
  obtain ⟨ao, cap, e, hc, hx⟩ := h
  exact ⟨ao, cap, e, hc, fun hp => by obtain ⟨b, off, e2, hcell⟩ := hx hp; exact ⟨b, off, e2, fun j hj => he.cell (hcell j hj)⟩⟩
theorem Row2At.ext {w w' : World} {v : Value} {n : Nat} {A B : Nat → Value} (h : Row2At w v n A B) (he : Ext w w') : Row2At w' v n A B := by
  obtain ⟨ao, cap, e, hc, hx⟩ := h
  exact ⟨ao, cap, e, hc, fun hp => by obtain ⟨b, off, e2, hcell⟩ := hx hp; exact ⟨b, off, e2, fun j hj => ⟨he.cell (hcell j hj).1, he.cell (hcell j hj).2⟩⟩⟩
def Own1 (w : World) (base : Nat) (T : TypeId) (v : Value) (n : Nat) (A : Nat → Value) : Prop := ∃ ys, w.ownsRow base T 1 v n ys ∧ ∀ j, j < n → ys[j]? = some (A j)
def Own2 (w : World) (base : Nat) (T : TypeId) (v : Value) (n : Nat) (A B : Nat → Value) : Prop := ∃ ys, w.ownsRow base T 2 v n ys ∧ ∀ j, j < n → ys[j * 2]? = some (A j) ∧ ys[j * 2 + 1]? = some (B j)
section
variable {w w' : World} {base : Nat} {T : TypeId} {v : Value} {n : Nat} {A B : Nat → Value}
theorem Own1.ext (h : Own1 w base T v n A) (he : Ext w w') : Own1 w' base T v n A := by obtain ⟨ys, h1, h2⟩ := h; exact ⟨ys, he.owns h1, h2⟩
theorem Own2.ext (h : Own2 w base T v n A B) (he : Ext w w') : Own2 w' base T v n A B := by obtain ⟨ys, h1, h2⟩ := h; exact ⟨ys, he.owns h1, h2⟩
theorem Own1.lt (h : Own1 w base T v n A) : ∀ g, v.ownBlock = some g → base ≤ g ∧ g < w.heap.size := by obtain ⟨ys, h1, _⟩ := h; exact h1.lt
theorem Own2.lt (h : Own2 w base T v n A B) : ∀ g, v.ownBlock = some g → base ≤ g ∧ g < w.heap.size := by obtain ⟨ys, h1, _⟩ := h; exact h1.lt
theorem Own1.fr {S : Nat → Prop} (h : Own1 w base T v n A) (hf : Fr S w w') (hS : ∀ g, v.ownBlock = some g → ¬ S g) : Own1 w' base T v n A := by obtain ⟨ys, h1, h2⟩ := h; exact ⟨ys, hf.owns h1 hS, h2⟩
theorem Own2.fr {S : Nat → Prop} (h : Own2 w base T v n A B) (hf : Fr S w w') (hS : ∀ g, v.ownBlock = some g → ¬ S g) : Own2 w' base T v n A B := by obtain ⟨ys, h1, h2⟩ := h; exact ⟨ys, hf.owns h1 hS, h2⟩
theorem Own1.mono {base' : Nat} (h : Own1 w base T v n A) (hb : base' ≤ base) : Own1 w base' T v n A := by obtain ⟨ys, h1, h2⟩ := h; exact ⟨ys, owns_mono h1 hb, h2⟩
theorem Own2.mono {base' : Nat} (h : Own2 w base T v n A B) (hb : base' ≤ base) : Own2 w base' T v n A B := by obtain ⟨ys, h1, h2⟩ := h; exact ⟨ys, owns_mono h1 hb, h2⟩
theorem Own1.reads (h : Own1 w base T v n A) : Row1At w v n A := by
  obtain ⟨ys, h1, h2⟩ := h
  rcases h1.2 with ⟨rfl, h0⟩ | ⟨g, cap, cur, rfl, hb, hg, hn, hm, hs, ht⟩
  · exact ⟨none, 0, by rw [h0], by omega, fun hp => by omega⟩
  · refine ⟨_, cap, rfl, hn, fun _ => ⟨g, 0, rfl, fun j hj => ?_⟩⟩
    rw [Nat.zero_add, h1.cellAt _ (by omega)]
    exact h2 j hj
theorem Own2.reads (h : Own2 w base T v n A B) : Row2At w v n A B := by
  obtain ⟨ys, h1, h2⟩ := h
  rcases h1.2 with ⟨rfl, h0⟩ | ⟨g, cap, cur, rfl, hb, hg, hn, hm, hs, ht⟩
  · exact ⟨none, 0, by rw [h0], by omega, fun hp => by omega⟩
  · refine ⟨_, cap, rfl, hn, fun _ => ⟨g, 0, rfl, fun j hj => ?_⟩⟩
    rw [Nat.zero_add, h1.cellAt _ (by omega), h1.cellAt _ (by omega)]
    exact h2 j hj
theorem Own1.form (h : Own1 w base T v n A) : (v = .slice none 0 0 ∧ n = 0) ∨ ∃ g cap, v = .slice (some ⟨g, 0, none⟩) n cap := by
  obtain ⟨ys, h1, h2⟩ := h
  rcases h1.2 with h0 | ⟨g, cap, cur, rfl, _⟩
  · exact .inl h0
  · exact .inr ⟨g, cap, rfl⟩
theorem Own2.form (h : Own2 w base T v n A B) : (v = .slice none 0 0 ∧ n = 0) ∨ ∃ g cap, v = .slice (some ⟨g, 0, none⟩) n cap := by
  obtain ⟨ys, h1, h2⟩ := h
  rcases h1.2 with h0 | ⟨g, cap, cur, rfl, _⟩
  · exact .inl h0
  · exact .inr ⟨g, cap, rfl⟩
theorem Own1.cell {g cap j : Nat} (h : Own1 w base T (.slice (some ⟨g, 0, none⟩) n cap) n A) (hj : j < n) : w.cell? ⟨g, j, none⟩ = some (A j) ∧ w.frozen? ⟨g, j, none⟩ = false := by
  obtain ⟨ys, h1, h2⟩ := h
  exact ⟨by rw [h1.cellAt _ (by omega)]; exact h2 j hj, h1.frozenAt j⟩
theorem Own2.cell {g cap j : Nat} (h : Own2 w base T (.slice (some ⟨g, 0, none⟩) n cap) n A B) (hj : j < n) : (w.cell? ⟨g, j * 2, none⟩ = some (A j) ∧ w.frozen? ⟨g, j * 2, none⟩ = false) ∧ w.cell? ⟨g, j * 2 + 1, none⟩ = some (B j) ∧ w.frozen? ⟨g, j * 2 + 1, none⟩ = false := by
  obtain ⟨ys, h1, h2⟩ := h
  exact ⟨⟨by rw [h1.cellAt _ (by omega)]; exact (h2 j hj).1, h1.frozenAt _⟩, by rw [h1.cellAt _ (by omega)]; exact (h2 j hj).2, h1.frozenAt _⟩
end
end Go.Proofs.YtbieoijeilhadaaDoor
