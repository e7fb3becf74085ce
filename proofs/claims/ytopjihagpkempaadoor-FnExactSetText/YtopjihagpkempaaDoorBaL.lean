import Derived.Test.YtopjihagpkempaaDoorClsGrow
import Derived.Test.YtopjihagpkempaaDoorSpecRune
import Derived.Deep.RegionHeld3
import Derived.Test.YtopjihagpkempaaDoorProg
import Derived.ProofKit
import Derived.OpenShut
import Derived.OpenVars
import Derived.Carry
import Derived.ChangeOld
import Derived.Deep.SlicePairs
import Derived.Deep.Strs
namespace Go.Proofs.YtopjihagpkempaaDoor
open Go.RowKit

/-- OUTSIDE THE BLOCKS OF S ALL OLD BLOCKS STAND. -/
structure Fr (S : Nat → Prop) (w w' : World) : Prop where
  os : w'.os = w.os
  tape : w'.tape = w.tape
  output : w'.output = w.output
  size : w.heap.size ≤ w'.heap.size
  block : ∀ k, k < w.heap.size → ¬ S k → w'.heap[k]? = w.heap[k]?
theorem Fr.refl (S : Nat → Prop) (w : World) : Fr S w w := ⟨rfl, rfl, rfl, Nat.le_refl _, fun _ _ _ => rfl⟩
theorem Fr.grown {S : Nat → Prop} {w W w3 : World} {row : Option Nat} (h : Fr S w W) (hg : W.grownBy w3 row) (hrow : ∀ k, row = some k → S k) : Fr S w w3 :=
  ⟨hg.os.trans h.os, hg.tape.trans h.tape, hg.output.trans h.output, Nat.le_trans h.size hg.size, fun i hi hn => (hg.block i (Nat.lt_of_lt_of_le hi h.size) (fun e => hn (hrow i e.symm))).trans (h.block i hi hn)⟩
theorem Fr.setCell {S : Nat → Prop} {w W : World} (h : Fr S w W) {a : Addr} (ha : S a.block) (u : Value) : Fr S w (W.setCell a u) :=
  h.grown (row := some a.block) ⟨rfl, rfl, rfl, by simp, fun k _ hk => Below.heap_setCell _ _ _ _ (fun e => hk (by rw [e]))⟩ (fun k hk => by simp at hk; subst hk; exact ha)
theorem Fr.ext {S : Nat → Prop} {w w' : World} (h : Fr S w w') {w0 : World} (h0 : Ext w0 w) (hS : ∀ k, S k → w0.heap.size ≤ k) : Ext w0 w' :=
  ⟨h.os.trans h0.os, h.tape.trans h0.tape, h.output.trans h0.output, Nat.le_trans h0.size h.size, fun i hi hn => (h.block i (Nat.lt_of_lt_of_le hi h0.size) (fun e => by have := hS i e; omega)).trans (h0.block i hi hn)⟩
theorem Fr.owns {S : Nat → Prop} {w w' : World} (h : Fr S w w') {base : Nat} {e : TypeId} {size : Nat} {v : Value} {n : Nat} {xs : List Value} (ho : w.ownsRow base e size v n xs) (hS : ∀ g, v.ownBlock = some g → ¬ S g) : w'.ownsRow base e size v n xs :=
  owns_same ho (fun g hg => h.block g (ho.lt g hg).2 (hS g hg))
theorem Fr.of_ext {S : Nat → Prop} {a b : World} (h : Ext a b) : Fr S a b := ⟨h.os, h.tape, h.output, h.size, fun _ hi _ => h.heap hi⟩
theorem Fr.mono {S S' : Nat → Prop} {a b : World} (h : Fr S a b) (hs : ∀ k, S k → S' k) : Fr S' a b := ⟨h.os, h.tape, h.output, h.size, fun i hi hn => h.block i hi (fun e => hn (hs i e))⟩
/-- The blocks that clusters lie in. -/
def Foot (v : Value) (rs : List Value) (n : Nat) (g : Nat) : Prop := v.ownBlock = some g ∨ ∃ j, j < n ∧ (rV rs j).ownBlock = some g
theorem OwnCls.fr {S : Nat → Prop} {w w' : World} {base : Nat} {v : Value} {rs : List Value} {cs : List (List Int × Int)} (h : OwnCls w base v rs cs) (hf : Fr S w w') (hS : ∀ g, Foot v rs cs.length g → ¬ S g) : OwnCls w' base v rs cs := by
  obtain ⟨h0, ⟨ys, h1, h2⟩, h3, h4⟩ := h
  exact ⟨h0, ⟨ys, hf.owns h1 (fun g hg => hS g (.inl hg)), h2⟩, fun j hj => hf.owns (h3 j hj) (fun g hg => hS g (.inr ⟨j, hj, hg⟩)), h4⟩
theorem OwnCls.foot {w : World} {base : Nat} {v : Value} {rs : List Value} {cs : List (List Int × Int)} (h : OwnCls w base v rs cs) {g : Nat} (hg : Foot v rs cs.length g) : base ≤ g ∧ g < w.heap.size := by
  obtain ⟨h0, ⟨ys, h1, h2⟩, h3, h4⟩ := h
  rcases hg with hg | ⟨j, hj, hg⟩
  · exact h1.lt g hg
  · exact (h3 j hj).lt g hg
/-- One cluster's runes and width written anew. -/
theorem OwnCls.mark {W W1 : World} {base g j cap : Nat} {rs : List Value} {cs : List (List Int × Int)} {zs : List Int} {d : Int}
    (h : OwnCls W base (.slice (some ⟨g, 0, none⟩) cs.length cap) rs cs) (hj : j < cs.length) (hz : zs.length = (cR cs j).length)
    (ho : W1.ownsRow base 21 1 (rV rs j) (cR cs j).length (zs.map (Value.int .i32))) (hg : W.grownBy W1 (rV rs j).ownBlock) :
    OwnCls (W1.setCell ⟨g, j * 2 + 1, none⟩ (.int .i64 d)) base (.slice (some ⟨g, 0, none⟩) cs.length cap) rs (cs.set j (zs, d)) := by
  obtain ⟨h0, ⟨ys, hy, hyy⟩, h3, h4⟩ := h
  have hyl := hy.1
  have hy1 : W1.ownsRow base 58 2 (.slice (some ⟨g, 0, none⟩) cs.length cap) cs.length ys :=
    owns_same hy (fun k hk => hg.block k (hy.lt k hk).2 (fun e => owns_apart hy (h3 j hj) (by decide) hk e.symm))
  have s1 := (hy1.stored (j * 2 + 1) (.int .i64 d)).1
  have ng : ∀ (u : Value) (n : Nat) (zs : List Value), W1.ownsRow base 21 1 u n zs → u.ownBlock ≠ some g := fun u n zs hu e => owns_apart hu hy1 (by decide) e rfl
  have keep : ∀ (u : Value) (n : Nat) (zs : List Value), W1.ownsRow base 21 1 u n zs → (W1.setCell ⟨g, j * 2 + 1, none⟩ (.int .i64 d)).ownsRow base 21 1 u n zs := fun u n zs hu =>
    owns_setCell hu (ng u n zs hu) _
  have old : ∀ i, i < cs.length → i ≠ j → W1.ownsRow base 21 1 (rV rs i) (cR cs i).length ((cR cs i).map (Value.int .i32)) := fun i hi hne =>
    owns_same (h3 i hi) (fun k hk => hg.block k ((h3 i hi).lt k hk).2 (fun e => by
      rcases Nat.lt_or_gt_of_ne hne with h5 | h5
      · exact h4 i j k h5 hj hk e.symm
      · exact h4 j i k h5 hi e.symm hk))
  refine ⟨by simp [h0], ⟨ys.set (j * 2 + 1) (.int .i64 d), by simpa using s1, fun i hi => ?_⟩, fun i hi => ?_, fun i j' k hij hj' hk => h4 i j' k hij (by simpa using hj') hk⟩
  · simp at hi
    rw [cW_set cs j _ i hj]
    by_cases e : i = j
    · subst e
      rw [if_pos rfl]
      exact ⟨by rw [List.getElem?_set_ne (by omega)]; exact (hyy i hi).1, List.getElem?_set_self (by omega)⟩
    · rw [if_neg e, List.getElem?_set_ne (by omega), List.getElem?_set_ne (by omega)]
      exact hyy i hi
  · simp at hi
    rw [cR_set cs j _ i hj]
    by_cases e : i = j
    · subst e
      rw [if_pos rfl]
      exact keep _ _ _ (by simpa [hz] using ho)
    · rw [if_neg e]
      exact keep _ _ _ (old i hi e)

def kkC (k : Int) (cs : List (List Int × Int)) : Nat → Int
  | 0 => k
  | j + 1 => kkC k cs j + ((cR cs j).length : Int) + 1
def mkTo (k : Int) (cs : List (List Int × Int)) : Nat → List (List Int × Int)
  | 0 => cs
  | j + 1 => (mkTo k cs j).set j (mkI32 (kkC k cs j) (cR cs j).length, kkC k cs j + ((cR cs j).length : Int))
/-- What 'mark' makes of clusters. -/
def mkCls (k : Int) (cs : List (List Int × Int)) : List (List Int × Int) := mkTo k cs cs.length
theorem mkTo_len (k : Int) (cs : List (List Int × Int)) : ∀ j, (mkTo k cs j).length = cs.length
  | 0 => rfl
  | j + 1 => by simp [mkTo, mkTo_len k cs j]
theorem mkCls_len (k : Int) (cs : List (List Int × Int)) : (mkCls k cs).length = cs.length := mkTo_len k cs _
theorem mkTo_R (k : Int) (cs : List (List Int × Int)) (i : Nat) : ∀ j, j ≤ cs.length → cR (mkTo k cs j) i = if i < j then mkI32 (kkC k cs i) (cR cs i).length else cR cs i
  | 0, _ => by simp [mkTo]
  | j + 1, h => by
    rw [mkTo, cR_set _ _ _ _ (by rw [mkTo_len]; omega), mkTo_R k cs i j (by omega)]
    by_cases e : i = j
    · subst e; simp
    · rw [if_neg e]
      by_cases h2 : i < j
      · rw [if_pos h2, if_pos (by omega)]
      · rw [if_neg h2, if_neg (by omega)]
theorem mkTo_W (k : Int) (cs : List (List Int × Int)) (i : Nat) : ∀ j, j ≤ cs.length → cW (mkTo k cs j) i = if i < j then kkC k cs i + ((cR cs i).length : Int) else cW cs i
  | 0, _ => by simp [mkTo]
  | j + 1, h => by
    rw [mkTo, cW_set _ _ _ _ (by rw [mkTo_len]; omega), mkTo_W k cs i j (by omega)]
    by_cases e : i = j
    · subst e; simp
    · rw [if_neg e]
      by_cases h2 : i < j
      · rw [if_pos h2, if_pos (by omega)]
      · rw [if_neg h2, if_neg (by omega)]
/-- No more than N is ever counted. -/
def Small (k : Int) (cs : List (List Int × Int)) : Prop := ∀ j, j ≤ cs.length → 0 ≤ kkC k cs j ∧ kkC k cs j ≤ 4398046511104
theorem kkC_bd (k : Int) (cs : List (List Int × Int)) (N : Nat) (hk : 0 ≤ k) (hN : ∀ j, (cR cs j).length ≤ N) : ∀ j, k ≤ kkC k cs j ∧ kkC k cs j ≤ k + (j : Int) * ((N : Int) + 1)
  | 0 => by simp [kkC]
  | j + 1 => by
    have ih := kkC_bd k cs N hk hN j
    have := hN j
    rw [kkC]
    have e : ((j + 1 : Nat) : Int) * ((N : Int) + 1) = (j : Int) * ((N : Int) + 1) + ((N : Int) + 1) := by
      rw [Int.natCast_add, Int.add_mul]; simp
    omega
end Go.Proofs.YtopjihagpkempaaDoor

namespace Go.Proofs.YtopjihagpkempaaDoor
open Go.RowKit

/-- A slice of one-cell elements reads as A. -/
def Row1At (w : World) (v : Value) (n : Nat) (A : Nat → Value) : Prop :=
  ∃ ao cap, v = .slice ao n cap ∧ n ≤ cap ∧ (0 < n → ∃ b off, ao = some ⟨b, off, none⟩ ∧ ∀ j, j < n → w.cell? ⟨b, off + j, none⟩ = some (A j))
/-- A slice of two-cell elements reads as A, B. -/
def Row2At (w : World) (v : Value) (n : Nat) (A B : Nat → Value) : Prop :=
  ∃ ao cap, v = .slice ao n cap ∧ n ≤ cap ∧ (0 < n → ∃ b off, ao = some ⟨b, off, none⟩ ∧ ∀ j, j < n → w.cell? ⟨b, off + j * 2, none⟩ = some (A j) ∧ w.cell? ⟨b, off + j * 2 + 1, none⟩ = some (B j))
theorem Row1At.ext {w w' : World} {v : Value} {n : Nat} {A : Nat → Value} (h : Row1At w v n A) (he : Ext w w') : Row1At w' v n A := by
  obtain ⟨ao, cap, e, hc, hx⟩ := h
  exact ⟨ao, cap, e, hc, fun hp => by obtain ⟨b, off, e2, hcell⟩ := hx hp; exact ⟨b, off, e2, fun j hj => he.cell (hcell j hj)⟩⟩
theorem Row2At.ext {w w' : World} {v : Value} {n : Nat} {A B : Nat → Value} (h : Row2At w v n A B) (he : Ext w w') : Row2At w' v n A B := by
  obtain ⟨ao, cap, e, hc, hx⟩ := h
  exact ⟨ao, cap, e, hc, fun hp => by obtain ⟨b, off, e2, hcell⟩ := hx hp; exact ⟨b, off, e2, fun j hj => ⟨he.cell (hcell j hj).1, he.cell (hcell j hj).2⟩⟩⟩
def Own1 (w : World) (base : Nat) (T : TypeId) (v : Value) (n : Nat) (A : Nat → Value) : Prop := ∃ ys, w.ownsRow base T 1 v n ys ∧ ∀ j, j < n → ys[j]? = some (A j)
def Own2 (w : World) (base : Nat) (T : TypeId) (v : Value) (n : Nat) (A B : Nat → Value) : Prop := ∃ ys, w.ownsRow base T 2 v n ys ∧ ∀ j, j < n → ys[j * 2]? = some (A j) ∧ ys[j * 2 + 1]? = some (B j)
section
variable {w w' : World} {base : Nat} {T : TypeId} {v : Value} {n : Nat} {A B : Nat → Value}
theorem Own1.ext (h : Own1 w base T v n A) (he : Ext w w') : Own1 w' base T v n A := by obtain ⟨ys, h1, h2⟩ := h; exact ⟨ys, he.owns h1, h2⟩
theorem Own2.ext (h : Own2 w base T v n A B) (he : Ext w w') : Own2 w' base T v n A B := by obtain ⟨ys, h1, h2⟩ := h; exact ⟨ys, he.owns h1, h2⟩
theorem Own1.lt (h : Own1 w base T v n A) : ∀ g, v.ownBlock = some g → base ≤ g ∧ g < w.heap.size := by obtain ⟨ys, h1, _⟩ := h; exact h1.lt
theorem Own2.lt (h : Own2 w base T v n A B) : ∀ g, v.ownBlock = some g → base ≤ g ∧ g < w.heap.size := by obtain ⟨ys, h1, _⟩ := h; exact h1.lt
theorem Own1.fr {S : Nat → Prop} (h : Own1 w base T v n A) (hf : Fr S w w') (hS : ∀ g, v.ownBlock = some g → ¬ S g) : Own1 w' base T v n A := by obtain ⟨ys, h1, h2⟩ := h; exact ⟨ys, hf.owns h1 hS, h2⟩
theorem Own2.fr {S : Nat → Prop} (h : Own2 w base T v n A B) (hf : Fr S w w') (hS : ∀ g, v.ownBlock = some g → ¬ S g) : Own2 w' base T v n A B := by obtain ⟨ys, h1, h2⟩ := h; exact ⟨ys, hf.owns h1 hS, h2⟩
theorem Own1.mono {base' : Nat} (h : Own1 w base T v n A) (hb : base' ≤ base) : Own1 w base' T v n A := by obtain ⟨ys, h1, h2⟩ := h; exact ⟨ys, owns_mono h1 hb, h2⟩
theorem Own2.mono {base' : Nat} (h : Own2 w base T v n A B) (hb : base' ≤ base) : Own2 w base' T v n A B := by obtain ⟨ys, h1, h2⟩ := h; exact ⟨ys, owns_mono h1 hb, h2⟩
theorem Own1.congr {A' : Nat → Value} (h : Own1 w base T v n A) (e : ∀ j, j < n → A j = A' j) : Own1 w base T v n A' := by obtain ⟨ys, h1, h2⟩ := h; exact ⟨ys, h1, fun j hj => by rw [← e j hj]; exact h2 j hj⟩
theorem Own2.congr {A' B' : Nat → Value} (h : Own2 w base T v n A B) (e : ∀ j, j < n → A j = A' j ∧ B j = B' j) : Own2 w base T v n A' B' := by obtain ⟨ys, h1, h2⟩ := h; exact ⟨ys, h1, fun j hj => by rw [← (e j hj).1, ← (e j hj).2]; exact h2 j hj⟩
theorem Own1.reads (h : Own1 w base T v n A) : Row1At w v n A := by
  obtain ⟨ys, h1, h2⟩ := h
  rcases h1.2 with ⟨rfl, h0⟩ | ⟨g, cap, cur, rfl, hb, hg, hn, hm, hs, ht⟩
  · exact ⟨none, 0, by rw [h0], by omega, fun hp => by omega⟩
  · refine ⟨_, cap, rfl, hn, fun _ => ⟨g, 0, rfl, fun j hj => ?_⟩⟩
    rw [Nat.zero_add, h1.cellAt _ (by omega)]
    exact h2 j hj
theorem Own2.reads (h : Own2 w base T v n A B) : Row2At w v n A B := by
  obtain ⟨ys, h1, h2⟩ := h
  rcases h1.2 with ⟨rfl, h0⟩ | ⟨g, cap, cur, rfl, hb, hg, hn, hm, hs, ht⟩
  · exact ⟨none, 0, by rw [h0], by omega, fun hp => by omega⟩
  · refine ⟨_, cap, rfl, hn, fun _ => ⟨g, 0, rfl, fun j hj => ?_⟩⟩
    rw [Nat.zero_add, h1.cellAt _ (by omega), h1.cellAt _ (by omega)]
    exact h2 j hj
theorem Own1.form (h : Own1 w base T v n A) : (v = .slice none 0 0 ∧ n = 0) ∨ ∃ g cap, v = .slice (some ⟨g, 0, none⟩) n cap := by
  obtain ⟨ys, h1, h2⟩ := h
  rcases h1.2 with h0 | ⟨g, cap, cur, rfl, _⟩
  · exact .inl h0
  · exact .inr ⟨g, cap, rfl⟩
theorem Own2.form (h : Own2 w base T v n A B) : (v = .slice none 0 0 ∧ n = 0) ∨ ∃ g cap, v = .slice (some ⟨g, 0, none⟩) n cap := by
  obtain ⟨ys, h1, h2⟩ := h
  rcases h1.2 with h0 | ⟨g, cap, cur, rfl, _⟩
  · exact .inl h0
  · exact .inr ⟨g, cap, rfl⟩
theorem Own1.cell {g cap j : Nat} (h : Own1 w base T (.slice (some ⟨g, 0, none⟩) n cap) n A) (hj : j < n) : w.cell? ⟨g, j, none⟩ = some (A j) ∧ w.frozen? ⟨g, j, none⟩ = false := by
  obtain ⟨ys, h1, h2⟩ := h
  exact ⟨by rw [h1.cellAt _ (by omega)]; exact h2 j hj, h1.frozenAt j⟩
theorem Own2.cell {g cap j : Nat} (h : Own2 w base T (.slice (some ⟨g, 0, none⟩) n cap) n A B) (hj : j < n) : (w.cell? ⟨g, j * 2, none⟩ = some (A j) ∧ w.frozen? ⟨g, j * 2, none⟩ = false) ∧ w.cell? ⟨g, j * 2 + 1, none⟩ = some (B j) ∧ w.frozen? ⟨g, j * 2 + 1, none⟩ = false := by
  obtain ⟨ys, h1, h2⟩ := h
  exact ⟨⟨by rw [h1.cellAt _ (by omega)]; exact (h2 j hj).1, h1.frozenAt _⟩, by rw [h1.cellAt _ (by omega)]; exact (h2 j hj).2, h1.frozenAt _⟩
theorem Own1.set {g cap j : Nat} (h : Own1 w base T (.slice (some ⟨g, 0, none⟩) n cap) n A) (hj : j < n) (u : Value) : Own1 (w.setCell ⟨g, j, none⟩ u) base T (.slice (some ⟨g, 0, none⟩) n cap) n (fun i => if i = j then u else A i) := by
  obtain ⟨ys, h1, h2⟩ := h
  have hl := h1.1
  refine ⟨_, (h1.stored j u).1, fun i hi => ?_⟩
  dsimp only
  by_cases e : i = j
  · subst e; rw [if_pos rfl, List.getElem?_set_self (by omega)]
  · rw [if_neg e, List.getElem?_set_ne (by omega)]; exact h2 i hi
theorem Own2.set {g cap j : Nat} (h : Own2 w base T (.slice (some ⟨g, 0, none⟩) n cap) n A B) (hj : j < n) (u u' : Value) :
    Own2 ((w.setCell ⟨g, j * 2, none⟩ u).setCell ⟨g, j * 2 + 1, none⟩ u') base T (.slice (some ⟨g, 0, none⟩) n cap) n (fun i => if i = j then u else A i) (fun i => if i = j then u' else B i) := by
  obtain ⟨ys, h1, h2⟩ := h
  have hl := h1.1
  refine ⟨_, ((h1.stored (j * 2) u).1.stored (j * 2 + 1) u').1, fun i hi => ?_⟩
  dsimp only
  by_cases e : i = j
  · subst e
    rw [if_pos rfl, if_pos rfl, List.getElem?_set_ne (by omega), List.getElem?_set_self (by omega), List.getElem?_set_self (by simp; omega)]
    exact ⟨rfl, rfl⟩
  · rw [if_neg e, if_neg e, List.getElem?_set_ne (by omega), List.getElem?_set_ne (by omega), List.getElem?_set_ne (by omega), List.getElem?_set_ne (by omega)]
    exact h2 i hi
end
/-- One element more at the end. -/
theorem own1_push {w' : World} {base : Nat} {T : TypeId} {v' : Value} {n : Nat} {A : Nat → Value} {ys : List Value} {u : Value} (hl : ys.length = n) (h2 : ∀ j, j < n → ys[j]? = some (A j)) (ho : w'.ownsRow base T 1 v' (n + 1) (ys ++ [u])) : Own1 w' base T v' (n + 1) (fun j => if j = n then u else A j) := by
  refine ⟨_, ho, fun j hj => ?_⟩
  dsimp only
  by_cases e : j = n
  · subst e; rw [if_pos rfl, List.getElem?_append_right (by omega)]; simp [hl]
  · rw [if_neg e, List.getElem?_append_left (by omega)]; exact h2 j (by omega)
end Go.Proofs.YtopjihagpkempaaDoor

namespace Go.Proofs.YtopjihagpkempaaDoor
open Go.RowKit

def dgs : Nat → Nat → List Int
  | 0, _ => []
  | f + 1, k => if k = 0 then [] else dgs f (k / 10) ++ [48 + ((k % 10 : Nat) : Int)]
theorem dgs_fuel : ∀ (f g k : Nat), k ≤ f → k ≤ g → dgs f k = dgs g k
  | 0, 0, _, _, _ => rfl
  | 0, g + 1, k, h, _ => by have : k = 0 := by omega
                            subst this; simp [dgs]
  | f + 1, 0, k, _, h => by have : k = 0 := by omega
                            subst this; simp [dgs]
  | f + 1, g + 1, k, h1, h2 => by
    simp only [dgs]
    split
    · rfl
    · rw [dgs_fuel f g (k / 10) (by omega) (by omega)]
def dg (k : Nat) : List Int := dgs k k
theorem dg_step (k : Nat) (h : 0 < k) : dg k = dg (k / 10) ++ [48 + ((k % 10 : Nat) : Int)] := by
  unfold dg
  obtain ⟨m, rfl⟩ : ∃ m, k = m + 1 := ⟨k - 1, by omega⟩
  rw [dgs, if_neg (by omega), dgs_fuel m ((m + 1) / 10) _ (by omega) (Nat.le_refl _)]
theorem dg_len (k : Nat) : (dg k).length ≤ k := by
  have : ∀ f k, k ≤ f → (dgs f k).length ≤ k := by
    intro f
    induction f with
    | zero => intro k h; simp [dgs]
    | succ f ih =>
      intro k h
      rw [dgs]
      split
      · simp
      · have := ih (k / 10) (by omega); simp; omega
  exact this k k (Nat.le_refl _)
/-- What a mark reads as. -/
def mtx (k : Int) : ByteArray := if k ≤ 0 then toBA [109, 48] else toBA (109 :: dg k.toNat)
theorem toBA_app (xs ys : List Int) : toBA xs ++ toBA ys = toBA (xs ++ ys) := by
  apply WideShapes.bytes_inj
  rw [ByteArray.data_append]
  simp [toBA_list]
set_option maxRecDepth 100000 in
set_option maxHeartbeats 1000000 in
theorem markText_any (k : Int) (w : World) (hk : k ≤ 4398046511104) : Calls Tryd.prog 36 #[.int .i64 k] w fun e w' => e = .returned (.string (mtx k)) ∧ Ext w w' := by
  by_cases h0 : k ≤ 0
  · have H : Hid (mtx k = { data := #[109, 48] }) := by show _ = _; rw [mtx, if_pos h0]; rfl
    go_enter Tryd.func36, Tryd.ntmps36
    go_wp2
    go_ret
    exact ⟨ret_str H.out.symm, Ext.refl _⟩
  · obtain ⟨m, rfl⟩ := Int.eq_ofNat_of_zero_le (show 0 ≤ k by omega)
    have H : Hid (mtx (m : Int) = toBA (109 :: dg m)) := by show _ = _; rw [mtx, if_neg h0, Int.toNat_natCast]
    have cv : ∀ (W : World) (z : Int), (convert 71 9 (.slice (some ⟨W.heap.size, 0, none⟩) 1 1)).run Tryd.prog (W.alloc (.cells #[.int .u8 z] 5)) = .ok (.string (toBA [z])) (W.alloc (.cells #[.int .u8 z] 5)) :=
      fun W z => run_b2s _ _ _ _ Tryd.underlying71 Tryd.underlying5 Tryd.underlying9 _ _ (new_ints .u8 [z] _ _ rfl)
    go_enter Tryd.func36, Tryd.ntmps36
    go_wp2
    go_loopw [0, 3] (fun a o wr => ∃ (q : Nat) (acc : List Int), q ≤ m ∧ a = .int .i64 q ∧ o = .string (toBA acc) ∧ Hid (dg m = dg q ++ acc) ∧ acc.length ≤ m ∧ Ext w wr) (fun a _ _ => (intOf a).toNat)
    case atStart => exact ⟨m, [], Nat.le_refl _, rfl, rfl, by show _ = _; simp, by simp, Ext.refl _⟩
    case round =>
      obtain ⟨q, acc, hq, rfl, rfl, HD, hacc, hext⟩ := hrel
      by_cases hlt : 0 < q
      · have hb : (0 : Int) < (q : Int) := by omega
        have hc1 := cv wr (48 + (q : Int) % 10)
        have hs1 : (toBA [48 + (q : Int) % 10]).size + (toBA acc).size ≤ 9223372036854775807 := by rw [toBA_size, toBA_size]; simp; omega
        have hadd := fun W => run_string_add_sum (P := Tryd.prog) W _ _ hs1
        have hst := dg_step q hlt
        have HD2 : Hid (dg m = dg (q / 10) ++ ((48 + (q : Int) % 10) :: acc)) := by
          show _ = _
          rw [HD.out, hst, List.append_assoc]
          simp
        have hal : acc.length + 1 ≤ m := by
          have h1 := congrArg List.length HD2.out
          have h2 := dg_len m
          simp at h1; omega
        rw [toBA_app] at hadd
        clear cv hs1 hst
        go_wp2
        go_roundw
        case rel => exact ⟨q / 10, _, by omega, by go_num, rfl, HD2, by simp; omega, hext.alloc _⟩
        case measure => simp [intOf]; omega
      · have hb : ¬ (0 : Int) < (q : Int) := by omega
        have hq0 : q = 0 := by omega
        have hs1 : (toBA [109]).size + (toBA acc).size ≤ 9223372036854775807 := by rw [toBA_size, toBA_size]; simp; omega
        have e1 : ({ data := #[109] } : ByteArray) = toBA [109] := rfl
        have hadd := fun W => run_string_add_sum (P := Tryd.prog) W _ _ hs1
        rw [toBA_app, ← e1] at hadd
        have hfin : Hid (mtx (m : Int) = toBA ([109] ++ acc)) := by
          show _ = _
          rw [H.out, HD.out, hq0]; rfl
        clear cv hs1 hq0 e1
        go_wp2
        go_ret
        exact ⟨ret_str hfin.out.symm, hext⟩
end Go.Proofs.YtopjihagpkempaaDoor

namespace Go.Proofs.YtopjihagpkempaaDoor
open Go.RowKit

def noS : ByteArray := { data := #[] }
theorem infoStrs : (Tryd.prog.info? 9).map (fun i => (i.zero, i.size, i.bytes)) = some (some (.string noS), 1, 16) := by kernel_rfl

/-- What 'mark' lays into cells. -/
def mkT (k : Int) (j : Nat) : Value := .string (mtx (k + 2 * (j : Int)))
end Go.Proofs.YtopjihagpkempaaDoor

namespace Go.Proofs.YtopjihagpkempaaDoor
open Go.RowKit


/-- What 'mark' lays: the numbers from k on, each made an int32. -/
def mkU8 (k : Int) (n : Nat) : List Int := (List.range n).map fun (j : Nat) => IntKind.u8.wrap (k + (j : Int))
theorem mkU8_len (k : Int) (n : Nat) : (mkU8 k n).length = n := by simp [mkU8]
theorem mkU8_at (k : Int) (n j : Nat) (h : j < n) : at0 (mkU8 k n) j = IntKind.u8.wrap (k + (j : Int)) := by simp [at0, mkU8, h]
/-- The row while 'mark' is at place j. -/
def midU8 (k : Int) (xs : List Value) (j : Nat) : List Value := ((mkU8 k j).map (Value.int .u8)) ++ xs.drop j
theorem midU8_zero (k : Int) (xs : List Value) : midU8 k xs 0 = xs := by simp [midU8, mkU8]
theorem midU8_step (k : Int) (xs : List Value) (j : Nat) (h : j < xs.length) : (midU8 k xs j).set j (.int .u8 (IntKind.u8.wrap (k + (j : Int)))) = midU8 k xs (j + 1) := by
  have e : mkU8 k (j + 1) = mkU8 k j ++ [IntKind.u8.wrap (k + (j : Int))] := by simp [mkU8, List.range_succ]
  have hl : ((mkU8 k j).map (Value.int .u8)).length = j := by simp [mkU8_len]
  unfold midU8
  rw [e, List.set_append_right _ _ (by omega), hl, Nat.sub_self, List.drop_eq_getElem_cons h, List.set_cons_zero]
  simp
theorem midU8_end (k : Int) (xs : List Value) (n : Nat) (h : xs.length = n) : midU8 k xs n = (mkU8 k n).map (Value.int .u8) := by
  unfold midU8
  rw [List.drop_of_length_le (by omega)]
  simp

theorem infoU8 : (Tryd.prog.info? 5).map (fun i => (i.zero, i.size, i.bytes)) = some (some (.int .u8 0), 1, 1) := by kernel_rfl
/-- The copy while it is at place j. -/
def cpU8 (zs : List Int) (xs : List Value) (j : Nat) : List Value := ((zs.take j).map (Value.int .u8)) ++ xs.drop j
theorem cpU8_zero (zs : List Int) (xs : List Value) : cpU8 zs xs 0 = xs := by simp [cpU8]
theorem cpU8_step (zs : List Int) (xs : List Value) (j : Nat) (h : j < xs.length) (h2 : j < zs.length) : (cpU8 zs xs j).set j (.int .u8 (at0 zs j)) = cpU8 zs xs (j + 1) := by
  have e : zs.take (j + 1) = zs.take j ++ [at0 zs j] := by rw [List.take_add_one, at0_lt h2]; rfl
  have hl : ((zs.take j).map (Value.int .u8)).length = j := by simp; omega
  unfold cpU8
  rw [e, List.set_append_right _ _ (by omega), hl, Nat.sub_self, List.drop_eq_getElem_cons h, List.set_cons_zero]
  simp
theorem cpU8_end (zs : List Int) (xs : List Value) (n : Nat) (h : xs.length = n) (h2 : zs.length = n) : cpU8 zs xs n = zs.map (Value.int .u8) := by
  unfold cpU8
  rw [List.drop_of_length_le (by omega), List.take_of_length_le (by omega)]
  simp

end Go.Proofs.YtopjihagpkempaaDoor

namespace Go.Proofs.YtopjihagpkempaaDoor
open Go.RowKit

/-- What a measure answers: -1, or what is left. -/
def SzR (l : Int) (n : Nat) (r : Int) : Prop := (r = -1 ∧ l < (n : Int)) ∨ (r = l - (n : Int) ∧ 0 ≤ r)
end Go.Proofs.YtopjihagpkempaaDoor

namespace Go.Proofs.YtopjihagpkempaaDoor
open Go.ChangeShapes Go.WideShapes Go.ChangeAt Go.RowKit

/-- One closed fact: each parameter's type can be read and is a row of the table. -/
def rowed (P : Program) (ts : List TypeId) : Bool := ts.all fun t => P.readableRec t && decide (t < P.types.size)

theorem trodAll_below {H : Type} {enc : TypeId × Value → H} {P : Program} (hl : laidOutB P = true) {W W' : World} (hb : Below W.heap.size W W') :
    ∀ {ts : List TypeId} {vs : List Value} {ds : List (DataW H)} {ps : List MemPlace}, rowed P ts = true → DataW.TrodAll enc P W 0 (fun _ => true) true ts vs ds ps → DataW.TrodAll enc P W' 0 (fun b => decide (b < W.heap.size)) true ts vs ds ps
  | [], [], [], _, _, h => h
  | [], _ :: _, _, _, _, h => h.elim
  | [], [], _ :: _, _, _, h => h.elim
  | _ :: _, [], _, _, _, h => h.elim
  | _ :: _, _ :: _, [], _, _, h => h.elim
  | t :: ts, v :: vs, d :: ds, ps, hr, h => by
    have hlt := h.lt
    obtain ⟨p, q, h1, h2, e⟩ := h
    simp only [rowed, List.all_cons, Bool.and_eq_true, decide_eq_true_eq] at hr
    exact ⟨p, q, Below.trod hl hr.1.1 hr.1.2 h1 hb (fun x hx => hlt x (by rw [e]; simp [hx])), trodAll_below hl hb (by simpa [rowed] using hr.2) h2, e⟩

/-- THE END OF A LAW: it returned true, below the old heap nothing has turned. -/
theorem post_law {H : Type} {enc : TypeId × Value → H} {P : Program} {f : Func} {s : ChangeSpec} {apart fresh handsOn : Bool} {bt : TypeId} {W W' : World} {args : Array Value} {ds gs : List (DataW H)} {before : List MemPlace}
    (hl : laidOutB P = true) (hr : rowed P f.params.toList = true) (hv : varsRowed P s.vars = true) (hres : f.resultTypes = #[bt]) (hbt : P.underlying bt = some .bool)
    (hW : DataW.Whole enc P f.params.toList s.vars apart W args.toList ds gs before)
    (hs : s.fn H (ds ++ gs) = { results := [.lit (.bool true)], args := ds, vars := gs }) (hb : Below W.heap.size W W') :
    s.post enc P f apart fresh handsOn false W args (.bool true) W' := by
  have hW' := hW
  obtain ⟨p, q, hA, hV, rfl, hfz, hnd⟩ := hW
  refine ⟨ds, gs, p ++ q, [], p, q, hW', ?_, ?_, ?_, hb.frame _, fun h => by cases h⟩
  · rw [hs, hres]
    exact trodAll_mk1 (shut_bool hbt true)
  · rw [hs]; exact trodAll_below hl hb hr hA
  · rw [hs]; exact Below.trodVars hl hb hv hV

/-- A slice of numbers that came in, opened. -/
theorem ints_came {H : Type} {enc : TypeId × Value → H} {P : Program} {W : World} {r : Reach} {base : Nat} {t e : TypeId} {k : IntKind} {v : Value} {d : DataW H} {p : List MemPlace} (ht : P.underlying t = some (.slice e)) (he : P.underlying e = some (.int k)) (hc : P.cellsOf e = 1)
    (hv : Value.okWide P W r base t v) (h : DataW.Trod enc P W 0 (fun _ => true) true t v d p) : ∃ zs, IntsAt W k v zs ∧ (∀ n ∈ zs, (Lit.int k n).wf = true) ∧ ∃ ao cap, v = .slice ao zs.length cap := by
  obtain ⟨a0, len, cap, rfl⟩ := okWide_slice ht hv
  obtain ⟨fuel, hf⟩ := h
  rcases open_ints ht he hc hf with ⟨hcs, _⟩ | ⟨a, len', cap', zs, hcs, _, hl, hm, hz, hx, hcell, hwz⟩
  · simp [Value.cells] at hcs
    obtain ⟨rfl, rfl, rfl⟩ := hcs
    exact ⟨[], ⟨none, 0, rfl, Nat.le_refl _, fun h => by simp at h⟩, fun n hn => by simp at hn, none, 0, rfl⟩
  · simp [Value.cells] at hcs
    obtain ⟨rfl, rfl, rfl⟩ := hcs
    simp at hz
    have hlen : (zs.take len).length = len := by simp; omega
    refine ⟨zs.take len, ⟨some a, cap, by rw [hlen], by omega, fun hp => ?_⟩, fun n hn => hwz n (List.mem_of_mem_take hn), some a, cap, by rw [hlen]⟩
    obtain ⟨b, off, rfl, hc2⟩ := ints_at hcell (by omega)
    refine ⟨b, off, rfl, fun j hj => ?_⟩
    rw [hlen] at hj
    rw [hc2 j (by omega)]
    simp [at0, hj, List.getD]
end Go.Proofs.YtopjihagpkempaaDoor

namespace Go.Proofs.YtopjihagpkempaaDoor
open Go.ChangeShapes Go.WideShapes Go.ChangeAt Go.RowKit Go.Deep

theorem addr_plain {W : World} {a : Addr} {v : Value} (h : W.cell? (a.add 0) = some v) : a = ⟨a.block, a.off, none⟩ := by
  obtain ⟨b, off, spot⟩ := a
  have hspot : spot = none := by simpa [Addr.add] using World.cell?_spot h
  subst hspot
  rfl
theorem bytes_trod {H : Type} {enc : TypeId × Value → H} {P : Program} {W : World} {t e : TypeId} {k : IntKind} {fuel : Nat} {v : Value} {x : DataW H × List MemPlace} (ht : P.underlying t = some (.slice e)) (he : P.underlying e = some (.int k)) (hc : P.cellsOf e = 1)
    (h : DataW.trod enc P W 0 (fun _ => true) true fuel t [v] = some x) : ∃ zs, IntsAt W k v zs ∧ (∀ n ∈ zs, (Lit.int k n).wf = true) ∧ zs.length ≤ maxLen := by
  rcases open_ints ht he hc h with ⟨hcs, _⟩ | ⟨a, len', cap', zs, hcs, _, hl, hm, hz, hx, hcell, hwz⟩
  · simp at hcs
    subst hcs
    exact ⟨[], ⟨none, 0, rfl, Nat.le_refl _, fun h => by simp at h⟩, fun n hn => by simp at hn, by simp⟩
  · simp at hcs
    subst hcs
    simp at hz
    have hlen : (zs.take len').length = len' := by simp; omega
    refine ⟨zs.take len', ⟨some a, cap', by rw [hlen], by omega, fun hp => ?_⟩, fun n hn => hwz n (List.mem_of_mem_take hn), by omega⟩
    obtain ⟨b, off, rfl, hc2⟩ := ints_at hcell (by omega)
    refine ⟨b, off, rfl, fun j hj => ?_⟩
    rw [hlen] at hj
    rw [hc2 j (by omega)]
    simp [at0, hj, List.getD]
theorem strs_trod {H : Type} {enc : TypeId × Value → H} {P : Program} {W : World} {t e : TypeId} {fuel : Nat} {v : Value} {x : DataW H × List MemPlace} (ht : P.underlying t = some (.slice e)) (he : P.underlying e = some .string) (hc : P.cellsOf e = 1)
    (h : DataW.trod enc P W 0 (fun _ => true) true fuel t [v] = some x) : ∃ (n : Nat) (tx : Nat → ByteArray), Row1At W v n (fun j => .string (tx j)) ∧ n ≤ maxLen ∧ ∀ j, j < n → (tx j).size ≤ maxLen := by
  rcases open_strs ht he hc h with ⟨hcs, _⟩ | ⟨a, len, cap, m, Sx, hcs, _, hl, hm, hmm, _, hx⟩
  · simp at hcs
    subst hcs
    exact ⟨0, fun _ => { data := #[] }, ⟨none, 0, rfl, Nat.le_refl _, fun h => by omega⟩, by simp, fun j hj => by omega⟩
  · simp at hcs
    subst hcs
    simp at hmm
    refine ⟨len, Sx, ⟨some a, cap, rfl, hl, fun hp => ?_⟩, by omega, fun j hj => (hx j (by omega)).2⟩
    have ha := addr_plain (by simpa using (hx 0 (by omega)).1)
    refine ⟨a.block, a.off, by rw [← ha], fun j hj => ?_⟩
    have c0 := (hx j (by omega)).1
    rw [ha, Addr.add_lit] at c0
    exact c0
end Go.Proofs.YtopjihagpkempaaDoor

namespace Go.Proofs.YtopjihagpkempaaDoor
open Go.RowKit

/-- A string's bytes as numbers. -/
def baL (s : ByteArray) : List Int := s.data.toList.map fun b => ((b.toNat : Nat) : Int)
theorem toBA_baL (s : ByteArray) : toBA (baL s) = s := by
  apply WideShapes.bytes_inj
  rw [toBA_list, baL, List.map_map]
  conv => rhs; rw [← List.map_id s.data.toList]
  apply List.map_congr_left
  intro b _
  simp
theorem baL_len (s : ByteArray) : (baL s).length = s.size := by simp [baL]
theorem baL_bytes (s : ByteArray) : Bytes (baL s) := by
  intro n hn
  obtain ⟨b, _, rfl⟩ := List.mem_map.1 hn
  have := b.toNat_lt
  omega
theorem Bytes.app {xs ys : List Int} (hx : Bytes xs) (hy : Bytes ys) : Bytes (xs ++ ys) := by
  intro n hn
  rcases List.mem_append.1 hn with h | h
  · exact hx n h
  · exact hy n h
theorem baL_toBA {xs : List Int} (h : Bytes xs) : baL (toBA xs) = xs := toBA_inj (baL_bytes _) h (toBA_baL _)
end Go.Proofs.YtopjihagpkempaaDoor
