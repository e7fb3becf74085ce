import Derived.Test.YtinfdhbnljnifaaGreatDoorSzB
import Derived.Maps.AppendAt
import Derived.Deep.RegionHeld3
namespace Go.Proofs.YtinfdhbnljnifaaGreatDoor
open Go.RowKit
theorem owns_same {w w' : World} {base : Nat} {e : TypeId} {size : Nat} {v : Value} {n : Nat} {xs : List Value} (ho : w.ownsRow base e size v n xs) (h : ∀ g, v.ownBlock = some g → w'.heap[g]? = w.heap[g]?) : w'.ownsRow base e size v n xs := by
  refine ⟨ho.1, ?_⟩
  rcases ho.2 with h1 | ⟨g, cap, cur, rfl, h2, h3, h4⟩
  · exact .inl h1
  · exact .inr ⟨g, cap, cur, rfl, h2, (h g rfl).trans h3, h4⟩
theorem owns_kind {w : World} {base : Nat} {e : TypeId} {size : Nat} {v : Value} {n : Nat} {xs : List Value} (ho : w.ownsRow base e size v n xs) {g : Nat} (hg : v.ownBlock = some g) : ∃ cur, w.heap[g]? = some (.cells cur e (0, 0)) := by
  rcases ho.2 with ⟨rfl, _⟩ | ⟨g', cap, cur, rfl, h2, h3, h4⟩
  · simp [Value.ownBlock] at hg
  · simp [Value.ownBlock] at hg
    subst hg
    exact ⟨cur, h3⟩
theorem owns_apart {w : World} {b1 b2 : Nat} {e1 e2 : TypeId} {s1 s2 : Nat} {v1 v2 : Value} {n1 n2 : Nat} {x1 x2 : List Value} (h1 : w.ownsRow b1 e1 s1 v1 n1 x1) (h2 : w.ownsRow b2 e2 s2 v2 n2 x2) (hne : e1 ≠ e2) {g : Nat} (hg : v1.ownBlock = some g) : v2.ownBlock ≠ some g := by
  intro hg2
  obtain ⟨c1, k1⟩ := owns_kind h1 hg
  obtain ⟨c2, k2⟩ := owns_kind h2 hg2
  rw [k1] at k2
  simp at k2
  exact hne k2.2
theorem cR_set (cs : List (List Int × Int)) (m : Nat) (c : List Int × Int) (j : Nat) (hm : m < cs.length) : cR (cs.set m c) j = if j = m then c.1 else cR cs j := by
  unfold cR
  by_cases h : j = m
  · subst h; simp [hm]
  · rw [if_neg h, List.getElem?_set_ne (by omega)]
theorem cW_set (cs : List (List Int × Int)) (m : Nat) (c : List Int × Int) (j : Nat) (hm : m < cs.length) : cW (cs.set m c) j = if j = m then c.2 else cW cs j := by
  unfold cW
  by_cases h : j = m
  · subst h; simp [hm]
  · rw [if_neg h, List.getElem?_set_ne (by omega)]
theorem cR_push (cs : List (List Int × Int)) (c : List Int × Int) (j : Nat) : cR (cs ++ [c]) j = if j = cs.length then c.1 else cR cs j := by
  unfold cR
  by_cases h : j = cs.length
  · subst h; simp
  · rw [if_neg h]
    by_cases h2 : j < cs.length
    · rw [List.getElem?_append_left h2]
    · rw [List.getElem?_eq_none (by simp; omega), List.getElem?_eq_none (by omega)]
theorem cW_push (cs : List (List Int × Int)) (c : List Int × Int) (j : Nat) : cW (cs ++ [c]) j = if j = cs.length then c.2 else cW cs j := by
  unfold cW
  by_cases h : j = cs.length
  · subst h; simp
  · rw [if_neg h]
    by_cases h2 : j < cs.length
    · rw [List.getElem?_append_left h2]
    · rw [List.getElem?_eq_none (by simp; omega), List.getElem?_eq_none (by omega)]
theorem OwnCls.push {W W' : World} {base : Nat} {v v' r : Value} {rs : List Value} {cs : List (List Int × Int)} {xs : List Int} {d : Int} {ys : List Value}
    (h : OwnCls W base v rs cs) (hy : W.ownsRow base 205 2 v cs.length ys) (hyy : ∀ j, j < cs.length → ys[j * 2]? = some (rV rs j) ∧ ys[j * 2 + 1]? = some (.int .i64 (cW cs j)))
    (hr : W.ownsRow base 21 1 r xs.length (xs.map (Value.int .i32))) (hfr : ∀ j g, j < cs.length → (rV rs j).ownBlock = some g → r.ownBlock ≠ some g)
    (ho : W'.ownsRow base 205 2 v' (cs.length + 1) (ys ++ [r, .int .i64 d])) (hg : W.grownBy W' v.ownBlock) : OwnCls W' base v' (rs ++ [r]) (cs ++ [(xs, d)]) := by
  obtain ⟨h0, _, h3, h4⟩ := h
  have hyl := hy.1
  have keep : ∀ (u : Value) (m : Nat) (zs : List Value), W.ownsRow base 21 1 u m zs → W'.ownsRow base 21 1 u m zs := fun u m zs hu =>
    owns_same hu (fun g hgu => hg.block g (hu.lt g hgu).2 (fun e => owns_apart hu hy (by decide) hgu e.symm))
  refine ⟨by simp [h0], ⟨_, by simpa using ho, fun j hj => ?_⟩, fun j hj => ?_, fun i j g hij hj hk => ?_⟩
  · simp at hj
    by_cases e : j = cs.length
    · subst e
      rw [← h0, rV_last, h0, cW_push, if_pos rfl]
      constructor
      · rw [List.getElem?_append_right (by omega)]; simp [hyl]
      · rw [List.getElem?_append_right (by omega)]; simp [hyl]
    · rw [rV_push rs r j (by omega), cW_push, if_neg e, List.getElem?_append_left (by omega), List.getElem?_append_left (by omega)]
      exact hyy j (by omega)
  · simp at hj
    rw [cR_push]
    by_cases e : j = cs.length
    · subst e
      rw [← h0, rV_last, h0, if_pos rfl]
      exact keep _ _ _ hr
    · rw [rV_push rs r j (by omega), if_neg e]
      exact keep _ _ _ (h3 j (by omega))
  · simp at hj
    rw [rV_push rs r i (by omega)] at hk
    by_cases e : j = cs.length
    · subst e
      rw [← h0, rV_last]
      exact hfr i g (by omega) hk
    · rw [rV_push rs r j (by omega)]
      exact h4 i j g hij (by omega) hk
theorem news_cells {w : World} (zs : List Value) (t : TypeId) : ∀ j u, zs[j]? = some u → (w.alloc (.cells zs.toArray t)).cell? ((⟨w.heap.size, 0, none⟩ : Addr).add j) = some u := by
  intro j u h
  rw [Addr.add_lit, Nat.zero_add, World.cell?_alloc_at _ _ _ _ rfl]
  simpa using h
end Go.Proofs.YtinfdhbnljnifaaGreatDoor

namespace Go.Proofs.YtinfdhbnljnifaaGreatDoor
open Go.RowKit
structure Fr (S : Nat → Prop) (w w' : World) : Prop where
  os : w'.os = w.os
  tape : w'.tape = w.tape
  output : w'.output = w.output
  size : w.heap.size ≤ w'.heap.size
  block : ∀ k, k < w.heap.size → ¬ S k → w'.heap[k]? = w.heap[k]?
theorem Fr.refl (S : Nat → Prop) (w : World) : Fr S w w := ⟨rfl, rfl, rfl, Nat.le_refl _, fun _ _ _ => rfl⟩
theorem Fr.grown {S : Nat → Prop} {w W w3 : World} {row : Option Nat} (h : Fr S w W) (hg : W.grownBy w3 row) (hrow : ∀ k, row = some k → S k) : Fr S w w3 :=
  ⟨hg.os.trans h.os, hg.tape.trans h.tape, hg.output.trans h.output, Nat.le_trans h.size hg.size, fun i hi hn => (hg.block i (Nat.lt_of_lt_of_le hi h.size) (fun e => hn (hrow i e.symm))).trans (h.block i hi hn)⟩
theorem Fr.setCell {S : Nat → Prop} {w W : World} (h : Fr S w W) {a : Addr} (ha : S a.block) (u : Value) : Fr S w (W.setCell a u) :=
  h.grown (row := some a.block) ⟨rfl, rfl, rfl, by simp, fun k _ hk => Below.heap_setCell _ _ _ _ (fun e => hk (by rw [e]))⟩ (fun k hk => by simp at hk; subst hk; exact ha)
theorem Fr.ext {S : Nat → Prop} {w w' : World} (h : Fr S w w') {w0 : World} (h0 : Ext w0 w) (hS : ∀ k, S k → w0.heap.size ≤ k) : Ext w0 w' :=
  ⟨h.os.trans h0.os, h.tape.trans h0.tape, h.output.trans h0.output, Nat.le_trans h0.size h.size, fun i hi hn => (h.block i (Nat.lt_of_lt_of_le hi h0.size) (fun e => by have := hS i e; omega)).trans (h0.block i hi hn)⟩
theorem Fr.owns {S : Nat → Prop} {w w' : World} (h : Fr S w w') {base : Nat} {e : TypeId} {size : Nat} {v : Value} {n : Nat} {xs : List Value} (ho : w.ownsRow base e size v n xs) (hS : ∀ g, v.ownBlock = some g → ¬ S g) : w'.ownsRow base e size v n xs :=
  owns_same ho (fun g hg => h.block g (ho.lt g hg).2 (hS g hg))
theorem Fr.of_ext {S : Nat → Prop} {a b : World} (h : Ext a b) : Fr S a b := ⟨h.os, h.tape, h.output, h.size, fun _ hi _ => h.heap hi⟩
theorem Fr.mono {S S' : Nat → Prop} {a b : World} (h : Fr S a b) (hs : ∀ k, S k → S' k) : Fr S' a b := ⟨h.os, h.tape, h.output, h.size, fun i hi hn => h.block i hi (fun e => hn (hs i e))⟩
def Foot (v : Value) (rs : List Value) (n : Nat) (g : Nat) : Prop := v.ownBlock = some g ∨ ∃ j, j < n ∧ (rV rs j).ownBlock = some g
theorem OwnCls.fr {S : Nat → Prop} {w w' : World} {base : Nat} {v : Value} {rs : List Value} {cs : List (List Int × Int)} (h : OwnCls w base v rs cs) (hf : Fr S w w') (hS : ∀ g, Foot v rs cs.length g → ¬ S g) : OwnCls w' base v rs cs := by
  obtain ⟨h0, ⟨ys, h1, h2⟩, h3, h4⟩ := h
  exact ⟨h0, ⟨ys, hf.owns h1 (fun g hg => hS g (.inl hg)), h2⟩, fun j hj => hf.owns (h3 j hj) (fun g hg => hS g (.inr ⟨j, hj, hg⟩)), h4⟩
theorem OwnCls.foot {w : World} {base : Nat} {v : Value} {rs : List Value} {cs : List (List Int × Int)} (h : OwnCls w base v rs cs) {g : Nat} (hg : Foot v rs cs.length g) : base ≤ g ∧ g < w.heap.size := by
  obtain ⟨h0, ⟨ys, h1, h2⟩, h3, h4⟩ := h
  rcases hg with hg | ⟨j, hj, hg⟩
  · exact h1.lt g hg
  · exact (h3 j hj).lt g hg
theorem OwnCls.mark {W W1 : World} {base g j cap : Nat} {rs : List Value} {cs : List (List Int × Int)} {zs : List Int} {d : Int}
    (h : OwnCls W base (.slice (some ⟨g, 0, none⟩) cs.length cap) rs cs) (hj : j < cs.length) (hz : zs.length = (cR cs j).length)
    (ho : W1.ownsRow base 21 1 (rV rs j) (cR cs j).length (zs.map (Value.int .i32))) (hg : W.grownBy W1 (rV rs j).ownBlock) :
    OwnCls (W1.setCell ⟨g, j * 2 + 1, none⟩ (.int .i64 d)) base (.slice (some ⟨g, 0, none⟩) cs.length cap) rs (cs.set j (zs, d)) := by
  obtain ⟨h0, ⟨ys, hy, hyy⟩, h3, h4⟩ := h
  have hyl := hy.1
  have hy1 : W1.ownsRow base 205 2 (.slice (some ⟨g, 0, none⟩) cs.length cap) cs.length ys :=
    owns_same hy (fun k hk => hg.block k (hy.lt k hk).2 (fun e => owns_apart hy (h3 j hj) (by decide) hk e.symm))
  have s1 := (hy1.stored (j * 2 + 1) (.int .i64 d)).1
  have ng : ∀ (u : Value) (n : Nat) (zs : List Value), W1.ownsRow base 21 1 u n zs → u.ownBlock ≠ some g := fun u n zs hu e => owns_apart hu hy1 (by decide) e rfl
  have keep : ∀ (u : Value) (n : Nat) (zs : List Value), W1.ownsRow base 21 1 u n zs → (W1.setCell ⟨g, j * 2 + 1, none⟩ (.int .i64 d)).ownsRow base 21 1 u n zs := fun u n zs hu =>
    owns_setCell hu (ng u n zs hu) _
  have old : ∀ i, i < cs.length → i ≠ j → W1.ownsRow base 21 1 (rV rs i) (cR cs i).length ((cR cs i).map (Value.int .i32)) := fun i hi hne =>
    owns_same (h3 i hi) (fun k hk => hg.block k ((h3 i hi).lt k hk).2 (fun e => by
      rcases Nat.lt_or_gt_of_ne hne with h5 | h5
      · exact h4 i j k h5 hj hk e.symm
      · exact h4 j i k h5 hi e.symm hk))
  refine ⟨by simp [h0], ⟨ys.set (j * 2 + 1) (.int .i64 d), by simpa using s1, fun i hi => ?_⟩, fun i hi => ?_, fun i j' k hij hj' hk => h4 i j' k hij (by simpa using hj') hk⟩
  · simp at hi
    rw [cW_set cs j _ i hj]
    by_cases e : i = j
    · subst e
      rw [if_pos rfl]
      exact ⟨by rw [List.getElem?_set_ne (by omega)]; exact (hyy i hi).1, List.getElem?_set_self (by omega)⟩
    · rw [if_neg e, List.getElem?_set_ne (by omega), List.getElem?_set_ne (by omega)]
      exact hyy i hi
  · simp at hi
    rw [cR_set cs j _ i hj]
    by_cases e : i = j
    · subst e
      rw [if_pos rfl]
      exact keep _ _ _ (by simpa [hz] using ho)
    · rw [if_neg e]
      exact keep _ _ _ (old i hi e)
def kkC (k : Int) (cs : List (List Int × Int)) : Nat → Int
  | 0 => k
  | j + 1 => kkC k cs j + ((cR cs j).length : Int) + 1
def Small (k : Int) (cs : List (List Int × Int)) : Prop := ∀ j, j ≤ cs.length → 0 ≤ kkC k cs j ∧ kkC k cs j ≤ 4398046511104
end Go.Proofs.YtinfdhbnljnifaaGreatDoor

namespace Go.Proofs.YtinfdhbnljnifaaGreatDoor
open Go.RowKit
def Row1At (w : World) (v : Value) (n : Nat) (A : Nat → Value) : Prop :=
  ∃ ao cap, v = .slice ao n cap ∧ n ≤ cap ∧ (0 < n → ∃ b off, ao = some ⟨b, off, none⟩ ∧ ∀ j, j < n → w.cell? ⟨b, off + j, none⟩ = some (A j))
def Row2At (w : World) (v : Value) (n : Nat) (A B : Nat → Value) : Prop :=
  ∃ ao cap, v = .slice ao n cap ∧ n ≤ cap ∧ (0 < n → ∃ b off, ao = some ⟨b, off, none⟩ ∧ ∀ j, j < n → w.cell? ⟨b, off + j * 2, none⟩ = some (A j) ∧ w.cell? ⟨b, off + j * 2 + 1, none⟩ = some (B j))
theorem Row1At.ext {w w' : World} {v : Value} {n : Nat} {A : Nat → Value} (h : Row1At w v n A) (he : Ext w w') : Row1At w' v n A := by
  obtain ⟨ao, cap, e, hc, hx⟩ := h
  exact ⟨ao, cap, e, hc, fun hp => by obtain ⟨b, off, e2, hcell⟩ := hx hp; exact ⟨b, off, e2, fun j hj => he.cell (hcell j hj)⟩⟩
theorem Row2At.ext {w w' : World} {v : Value} {n : Nat} {A B : Nat → Value} (h : Row2At w v n A B) (he : Ext w w') : Row2At w' v n A B := by
  obtain ⟨ao, cap, e, hc, hx⟩ := h
  exact ⟨ao, cap, e, hc, fun hp => by obtain ⟨b, off, e2, hcell⟩ := hx hp; exact ⟨b, off, e2, fun j hj => ⟨he.cell (hcell j hj).1, he.cell (hcell j hj).2⟩⟩⟩
def Own1 (w : World) (base : Nat) (T : TypeId) (v : Value) (n : Nat) (A : Nat → Value) : Prop := ∃ ys, w.ownsRow base T 1 v n ys ∧ ∀ j, j < n → ys[j]? = some (A j)
def Own2 (w : World) (base : Nat) (T : TypeId) (v : Value) (n : Nat) (A B : Nat → Value) : Prop := ∃ ys, w.ownsRow base T 2 v n ys ∧ ∀ j, j < n → ys[j * 2]? = some (A j) ∧ ys[j * 2 + 1]? = some (B j)
section
variable {w w' : World} {base : Nat} {T : TypeId} {v : Value} {n : Nat} {A B : Nat → Value}
theorem Own1.ext (h : Own1 w base T v n A) (he : Ext w w') : Own1 w' base T v n A := by obtain ⟨ys, h1, h2⟩ := h; exact ⟨ys, he.owns h1, h2⟩
theorem Own2.ext (h : Own2 w base T v n A B) (he : Ext w w') : Own2 w' base T v n A B := by obtain ⟨ys, h1, h2⟩ := h; exact ⟨ys, he.owns h1, h2⟩
theorem Own1.lt (h : Own1 w base T v n A) : ∀ g, v.ownBlock = some g → base ≤ g ∧ g < w.heap.size := by obtain ⟨ys, h1, _⟩ := h; exact h1.lt
theorem Own2.lt (h : Own2 w base T v n A B) : ∀ g, v.ownBlock = some g → base ≤ g ∧ g < w.heap.size := by obtain ⟨ys, h1, _⟩ := h; exact h1.lt
theorem Own1.fr {S : Nat → Prop} (h : Own1 w base T v n A) (hf : Fr S w w') (hS : ∀ g, v.ownBlock = some g → ¬ S g) : Own1 w' base T v n A := by obtain ⟨ys, h1, h2⟩ := h; exact ⟨ys, hf.owns h1 hS, h2⟩
theorem Own2.fr {S : Nat → Prop} (h : Own2 w base T v n A B) (hf : Fr S w w') (hS : ∀ g, v.ownBlock = some g → ¬ S g) : Own2 w' base T v n A B := by obtain ⟨ys, h1, h2⟩ := h; exact ⟨ys, hf.owns h1 hS, h2⟩
theorem Own1.mono {base' : Nat} (h : Own1 w base T v n A) (hb : base' ≤ base) : Own1 w base' T v n A := by obtain ⟨ys, h1, h2⟩ := h; exact ⟨ys, owns_mono h1 hb, h2⟩
theorem Own2.mono {base' : Nat} (h : Own2 w base T v n A B) (hb : base' ≤ base) : Own2 w base' T v n A B := by obtain ⟨ys, h1, h2⟩ := h; exact ⟨ys, owns_mono h1 hb, h2⟩
theorem Own1.congr {A' : Nat → Value} (h : Own1 w base T v n A) (e : ∀ j, j < n → A j = A' j) : Own1 w base T v n A' := by obtain ⟨ys, h1, h2⟩ := h; exact ⟨ys, h1, fun j hj => by rw [← e j hj]; exact h2 j hj⟩
theorem Own2.congr {A' B' : Nat → Value} (h : Own2 w base T v n A B) (e : ∀ j, j < n → A j = A' j ∧ B j = B' j) : Own2 w base T v n A' B' := by obtain ⟨ys, h1, h2⟩ := h; exact ⟨ys, h1, fun j hj => by rw [← (e j hj).1, ← (e j hj).2]; exact h2 j hj⟩
theorem Own1.reads (h : Own1 w base T v n A) : Row1At w v n A := by
  obtain ⟨ys, h1, h2⟩ := h
  rcases h1.2 with ⟨rfl, h0⟩ | ⟨g, cap, cur, rfl, hb, hg, hn, hm, hs, ht⟩
  · exact ⟨none, 0, by rw [h0], by omega, fun hp => by omega⟩
  · refine ⟨_, cap, rfl, hn, fun _ => ⟨g, 0, rfl, fun j hj => ?_⟩⟩
    rw [Nat.zero_add, h1.cellAt _ (by omega)]
    exact h2 j hj
theorem Own2.reads (h : Own2 w base T v n A B) : Row2At w v n A B := by
  obtain ⟨ys, h1, h2⟩ := h
  rcases h1.2 with ⟨rfl, h0⟩ | ⟨g, cap, cur, rfl, hb, hg, hn, hm, hs, ht⟩
  · exact ⟨none, 0, by rw [h0], by omega, fun hp => by omega⟩
  · refine ⟨_, cap, rfl, hn, fun _ => ⟨g, 0, rfl, fun j hj => ?_⟩⟩
    rw [Nat.zero_add, h1.cellAt _ (by omega), h1.cellAt _ (by omega)]
    exact h2 j hj
theorem Own1.form (h : Own1 w base T v n A) : (v = .slice none 0 0 ∧ n = 0) ∨ ∃ g cap, v = .slice (some ⟨g, 0, none⟩) n cap := by
  obtain ⟨ys, h1, h2⟩ := h
  rcases h1.2 with h0 | ⟨g, cap, cur, rfl, _⟩
  · exact .inl h0
  · exact .inr ⟨g, cap, rfl⟩
theorem Own2.form (h : Own2 w base T v n A B) : (v = .slice none 0 0 ∧ n = 0) ∨ ∃ g cap, v = .slice (some ⟨g, 0, none⟩) n cap := by
  obtain ⟨ys, h1, h2⟩ := h
  rcases h1.2 with h0 | ⟨g, cap, cur, rfl, _⟩
  · exact .inl h0
  · exact .inr ⟨g, cap, rfl⟩
theorem Own1.cell {g cap j : Nat} (h : Own1 w base T (.slice (some ⟨g, 0, none⟩) n cap) n A) (hj : j < n) : w.cell? ⟨g, j, none⟩ = some (A j) ∧ w.frozen? ⟨g, j, none⟩ = false := by
  obtain ⟨ys, h1, h2⟩ := h
  exact ⟨by rw [h1.cellAt _ (by omega)]; exact h2 j hj, h1.frozenAt j⟩
theorem Own2.cell {g cap j : Nat} (h : Own2 w base T (.slice (some ⟨g, 0, none⟩) n cap) n A B) (hj : j < n) : (w.cell? ⟨g, j * 2, none⟩ = some (A j) ∧ w.frozen? ⟨g, j * 2, none⟩ = false) ∧ w.cell? ⟨g, j * 2 + 1, none⟩ = some (B j) ∧ w.frozen? ⟨g, j * 2 + 1, none⟩ = false := by
  obtain ⟨ys, h1, h2⟩ := h
  exact ⟨⟨by rw [h1.cellAt _ (by omega)]; exact (h2 j hj).1, h1.frozenAt _⟩, by rw [h1.cellAt _ (by omega)]; exact (h2 j hj).2, h1.frozenAt _⟩
theorem Own1.set {g cap j : Nat} (h : Own1 w base T (.slice (some ⟨g, 0, none⟩) n cap) n A) (hj : j < n) (u : Value) : Own1 (w.setCell ⟨g, j, none⟩ u) base T (.slice (some ⟨g, 0, none⟩) n cap) n (fun i => if i = j then u else A i) := by
  obtain ⟨ys, h1, h2⟩ := h
  have hl := h1.1
  refine ⟨_, (h1.stored j u).1, fun i hi => ?_⟩
  dsimp only
  by_cases e : i = j
  · subst e; rw [if_pos rfl, List.getElem?_set_self (by omega)]
  · rw [if_neg e, List.getElem?_set_ne (by omega)]; exact h2 i hi
theorem Own2.set {g cap j : Nat} (h : Own2 w base T (.slice (some ⟨g, 0, none⟩) n cap) n A B) (hj : j < n) (u u' : Value) :
    Own2 ((w.setCell ⟨g, j * 2, none⟩ u).setCell ⟨g, j * 2 + 1, none⟩ u') base T (.slice (some ⟨g, 0, none⟩) n cap) n (fun i => if i = j then u else A i) (fun i => if i = j then u' else B i) := by
  obtain ⟨ys, h1, h2⟩ := h
  have hl := h1.1
  refine ⟨_, ((h1.stored (j * 2) u).1.stored (j * 2 + 1) u').1, fun i hi => ?_⟩
  dsimp only
  by_cases e : i = j
  · subst e
    rw [if_pos rfl, if_pos rfl, List.getElem?_set_ne (by omega), List.getElem?_set_self (by omega), List.getElem?_set_self (by simp; omega)]
    exact ⟨rfl, rfl⟩
  · rw [if_neg e, if_neg e, List.getElem?_set_ne (by omega), List.getElem?_set_ne (by omega), List.getElem?_set_ne (by omega), List.getElem?_set_ne (by omega)]
    exact h2 i hi
end
end Go.Proofs.YtinfdhbnljnifaaGreatDoor

namespace Go.Proofs.YtinfdhbnljnifaaGreatDoor
open Go.RowKit
def dgs : Nat → Nat → List Int
  | 0, _ => []
  | f + 1, k => if k = 0 then [] else dgs f (k / 10) ++ [48 + ((k % 10 : Nat) : Int)]
theorem dgs_fuel : ∀ (f g k : Nat), k ≤ f → k ≤ g → dgs f k = dgs g k
  | 0, 0, _, _, _ => rfl
  | 0, g + 1, k, h, _ => by have : k = 0 := by omega
                            subst this; simp [dgs]
  | f + 1, 0, k, _, h => by have : k = 0 := by omega
                            subst this; simp [dgs]
  | f + 1, g + 1, k, h1, h2 => by
    simp only [dgs]
    split
    · rfl
    · rw [dgs_fuel f g (k / 10) (by omega) (by omega)]
def dg (k : Nat) : List Int := dgs k k
theorem dg_step (k : Nat) (h : 0 < k) : dg k = dg (k / 10) ++ [48 + ((k % 10 : Nat) : Int)] := by
  unfold dg
  obtain ⟨m, rfl⟩ : ∃ m, k = m + 1 := ⟨k - 1, by omega⟩
  rw [dgs, if_neg (by omega), dgs_fuel m ((m + 1) / 10) _ (by omega) (Nat.le_refl _)]
theorem dg_len (k : Nat) : (dg k).length ≤ k := by
  have : ∀ f k, k ≤ f → (dgs f k).length ≤ k := by
    intro f
    induction f with
    | zero => intro k h; simp [dgs]
    | succ f ih =>
      intro k h
      rw [dgs]
      split
      · simp
      · have := ih (k / 10) (by omega); simp; omega
  exact this k k (Nat.le_refl _)
def mtx (k : Int) : ByteArray := if k ≤ 0 then toBA [109, 48] else toBA (109 :: dg k.toNat)
theorem toBA_app (xs ys : List Int) : toBA xs ++ toBA ys = toBA (xs ++ ys) := by
  apply WideShapes.bytes_inj
  rw [ByteArray.data_append]
  simp [toBA_list]
set_option maxRecDepth 100000 in
set_option maxHeartbeats 1000000 in
theorem markText_any (k : Int) (w : World) (hk : k ≤ 4398046511104) : Calls Tryz.prog 124 #[.int .i64 k] w fun e w' => e = .returned (.string (mtx k)) ∧ Ext w w' := by
  by_cases h0 : k ≤ 0
  · have H : Hid (mtx k = { data := #[109, 48] }) := by show _ = _; rw [mtx, if_pos h0]; rfl
    go_enter Tryz.func124, Tryz.ntmps124
    go_wp2
    go_ret
    exact ⟨ret_str H.out.symm, Ext.refl _⟩
  · obtain ⟨m, rfl⟩ := Int.eq_ofNat_of_zero_le (show 0 ≤ k by omega)
    have H : Hid (mtx (m : Int) = toBA (109 :: dg m)) := by show _ = _; rw [mtx, if_neg h0, Int.toNat_natCast]
    have cv : ∀ (W : World) (z : Int), (convert 22 9 (.slice (some ⟨W.heap.size, 0, none⟩) 1 1)).run Tryz.prog (W.alloc (.cells #[.int .u8 z] 5)) = .ok (.string (toBA [z])) (W.alloc (.cells #[.int .u8 z] 5)) :=
      fun W z => run_b2s _ _ _ _ Tryz.underlying22 Tryz.underlying5 Tryz.underlying9 _ _ (new_ints .u8 [z] _ _ rfl)
    go_enter Tryz.func124, Tryz.ntmps124
    go_wp2
    go_loopw [0, 3] (fun a o wr => ∃ (q : Nat) (acc : List Int), q ≤ m ∧ a = .int .i64 q ∧ o = .string (toBA acc) ∧ Hid (dg m = dg q ++ acc) ∧ acc.length ≤ m ∧ Ext w wr) (fun a _ _ => (intOf a).toNat)
    case atStart => exact ⟨m, [], Nat.le_refl _, rfl, rfl, by show _ = _; simp, by simp, Ext.refl _⟩
    case round =>
      obtain ⟨q, acc, hq, rfl, rfl, HD, hacc, hext⟩ := hrel
      by_cases hlt : 0 < q
      · have hb : (0 : Int) < (q : Int) := by omega
        have hc1 := cv wr (48 + (q : Int) % 10)
        have hs1 : (toBA [48 + (q : Int) % 10]).size + (toBA acc).size ≤ 9223372036854775807 := by rw [toBA_size, toBA_size]; simp; omega
        have hadd := fun W => run_string_add_sum (P := Tryz.prog) W _ _ hs1
        have hst := dg_step q hlt
        have HD2 : Hid (dg m = dg (q / 10) ++ ((48 + (q : Int) % 10) :: acc)) := by
          show _ = _
          rw [HD.out, hst, List.append_assoc]
          simp
        have hal : acc.length + 1 ≤ m := by
          have h1 := congrArg List.length HD2.out
          have h2 := dg_len m
          simp at h1; omega
        rw [toBA_app] at hadd
        clear cv hs1 hst
        go_wp2
        go_roundw
        case rel => exact ⟨q / 10, _, by omega, by go_num, rfl, HD2, by simp; omega, hext.alloc _⟩
        case measure => simp [intOf]; omega
      · have hb : ¬ (0 : Int) < (q : Int) := by omega
        have hq0 : q = 0 := by omega
        have hs1 : (toBA [109]).size + (toBA acc).size ≤ 9223372036854775807 := by rw [toBA_size, toBA_size]; simp; omega
        have e1 : ({ data := #[109] } : ByteArray) = toBA [109] := rfl
        have hadd := fun W => run_string_add_sum (P := Tryz.prog) W _ _ hs1
        rw [toBA_app, ← e1] at hadd
        have hfin : Hid (mtx (m : Int) = toBA ([109] ++ acc)) := by
          show _ = _
          rw [H.out, HD.out, hq0]; rfl
        clear cv hs1 hq0 e1
        go_wp2
        go_ret
        exact ⟨ret_str hfin.out.symm, hext⟩
end Go.Proofs.YtinfdhbnljnifaaGreatDoor

namespace Go.Proofs.YtinfdhbnljnifaaGreatDoor
open Go.RowKit
def noS : ByteArray := { data := #[] }
theorem infoStrs : (Tryz.prog.info? 9).map (fun i => (i.zero, i.size, i.bytes)) = some (some (.string noS), 1, 16) := by kernel_rfl
set_option maxHeartbeats 1000000 in
theorem eqCell_same (s : ByteArray) (h : Bool) (w : World) : Calls Tryz.prog 170 #[.agg #[.string s, .bool h], .agg #[.string s, .bool h]] w fun e w' => e = .returned (.bool true) ∧ Ext w w' := by
  go_enter Tryz.func170, Tryz.ntmps170
  go_wp2
  go_ret
  exact ⟨rfl, ((Ext.refl _).alloc _).alloc _⟩
set_option maxHeartbeats 1000000 in
theorem eqCellS_same (va vb : Value) (n : Nat) (tx : Nat → ByteArray) (hf : Nat → Bool) (w : World) (ha : Row2At w va n (fun j => .string (tx j)) (fun j => .bool (hf j))) (hb : Row2At w vb n (fun j => .string (tx j)) (fun j => .bool (hf j))) (hl : n ≤ 4398046511104) :
    Calls Tryz.prog 122 #[va, vb] w fun e w' => e = .returned (.bool true) ∧ Ext w w' := by
  obtain ⟨ao, ca, rfl, hca, hxa⟩ := ha
  obtain ⟨bo, cb, rfl, hcb, hxb⟩ := hb
  by_cases h0 : n = 0
  · subst h0
    clear hxa hxb
    go_enter Tryz.func122, Tryz.ntmps122
    go_wp2
    go_loop [5] (fun i => i = .int .i64 0) (fun _ => 0)
    case atStart => rfl
    case round =>
      subst hrel
      go_wp2
      go_ret
      exact ⟨rfl, Ext.refl _⟩
  · obtain ⟨b1, o1, rfl, h1⟩ := hxa (by omega)
    obtain ⟨b2, o2, rfl, h2⟩ := hxb (by omega)
    clear hxa hxb
    have H1 := hide h1
    have H2 := hide h2
    clear h1 h2
    go_enter Tryz.func122, Tryz.ntmps122
    go_wp2
    go_loopw [5] (fun i w' => ∃ k : Nat, k ≤ n ∧ i = .int .i64 k ∧ Ext w w') (fun i _ => n - (intOf i).toNat)
    case atStart => exact ⟨0, Nat.zero_le _, rfl, Ext.refl _⟩
    case round =>
      obtain ⟨k, hk, rfl, hext⟩ := hrel
      by_cases hlt : k < n
      · have g1 := hext.cell ((unhide H1) k hlt).1
        have g2 := hext.cell ((unhide H1) k hlt).2
        have g3 := hext.cell ((unhide H2) k hlt).1
        have g4 := hext.cell ((unhide H2) k hlt).2
        have bk : (k : Int) < (n : Int) := by omega
        go_wp2
        go_region_held3 (fun W => Ext wr W ∧ W.cell? ⟨b1, o1 + k * 2, none⟩ = some (.string (tx k)) ∧ W.cell? ⟨b1, o1 + k * 2 + 1, none⟩ = some (.bool (hf k)) ∧ W.cell? ⟨b2, o2 + k * 2, none⟩ = some (.string (tx k)) ∧ W.cell? ⟨b2, o2 + k * 2 + 1, none⟩ = some (.bool (hf k))) (first | exact ⟨(Ext.refl wr).drew, g1, g2, g3, g4⟩ | exact ⟨(Ext.refl wr).drew.trans he', he'.cell g1, he'.cell g2, he'.cell g3, he'.cell g4⟩) (first | (go_at_call 170; refine (eqCell_same _ _ _).mono ?_; rintro e w' ⟨rfl, he'⟩))
        rename_i hS
        have hE := hext.trans hS.1
        clear hS g1 g2 g3 g4
        go_wp2
        go_roundw
        case rel => exact ⟨k + 1, by omega, by go_num, hE⟩
        case measure => simp [intOf]; omega
      · go_wp2
        go_ret
        exact ⟨rfl, hext⟩
set_option maxHeartbeats 1000000 in
theorem eqStringS_same (va vb : Value) (n : Nat) (tx : Nat → ByteArray) (w : World) (ha : Row1At w va n (fun j => .string (tx j))) (hb : Row1At w vb n (fun j => .string (tx j))) (hl : n ≤ 4398046511104) :
    Calls Tryz.prog 65 #[va, vb] w fun e w' => e = .returned (.bool true) ∧ Ext w w' := by
  obtain ⟨ao, ca, rfl, hca, hxa⟩ := ha
  obtain ⟨bo, cb, rfl, hcb, hxb⟩ := hb
  by_cases h0 : n = 0
  · subst h0
    clear hxa hxb
    go_enter Tryz.func65, Tryz.ntmps65
    go_wp2
    go_loop [5] (fun i => i = .int .i64 0) (fun _ => 0)
    case atStart => rfl
    case round =>
      subst hrel
      go_wp2
      go_ret
      exact ⟨rfl, Ext.refl _⟩
  · obtain ⟨b1, o1, rfl, h1⟩ := hxa (by omega)
    obtain ⟨b2, o2, rfl, h2⟩ := hxb (by omega)
    clear hxa hxb
    have H1 := hide h1
    have H2 := hide h2
    clear h1 h2
    go_enter Tryz.func65, Tryz.ntmps65
    go_wp2
    go_loopw [5] (fun i w' => ∃ k : Nat, k ≤ n ∧ i = .int .i64 k ∧ Ext w w') (fun i _ => n - (intOf i).toNat)
    case atStart => exact ⟨0, Nat.zero_le _, rfl, Ext.refl _⟩
    case round =>
      obtain ⟨k, hk, rfl, hext⟩ := hrel
      by_cases hlt : k < n
      · have g1 := hext.cell ((unhide H1) k hlt)
        have g3 := hext.cell ((unhide H2) k hlt)
        have bk : (k : Int) < (n : Int) := by omega
        go_wp2
        go_quiet (fail)
        go_wp2
        go_roundw
        case rel => exact ⟨k + 1, by omega, by go_num, hext.drewN _⟩
        case measure => simp [intOf]; omega
      · go_wp2
        go_ret
        exact ⟨rfl, hext⟩
def mkT (k : Int) (j : Nat) : Value := .string (mtx (k + 2 * (j : Int)))
def mkH (k : Int) (j : Nat) : Value := .bool ((k + 2 * (j : Int) + 1) % 3 == 0)
set_option maxHeartbeats 1000000 in
theorem markCellS_any (base : Nat) (v : Value) (n : Nat) (A B : Nat → Value) (k : Int) (w : World) (hv : Own2 w base 83 v n A B) (hn : n ≤ 1048576) (hk : 0 ≤ k) (hk2 : k ≤ 1099511627776) :
    Calls Tryz.prog 123 #[v, .int .i64 k] w fun e w' => e = .returned (.int .i64 (k + 2 * (n : Int))) ∧ Own2 w' base 83 v n (mkT k) (mkH k) ∧ Fr (fun g => v.ownBlock = some g) w w' := by
  have HV := hide hv
  rcases hv.form with ⟨rfl, h0⟩ | ⟨g, cap, rfl⟩
  · subst h0
    clear hv
    go_enter Tryz.func123, Tryz.ntmps123
    go_wp2
    go_loop [1, 5] (fun a i => a = .int .i64 k ∧ i = .int .i64 0) (fun _ _ => 0)
    case atStart => exact ⟨rfl, rfl⟩
    case round =>
      obtain ⟨rfl, rfl⟩ := hrel
      go_wp2
      go_ret
      exact ⟨ret_int (by simp), (unhide HV).congr (fun j hj => by omega), Fr.refl _ _⟩
  · clear hv
    go_enter Tryz.func123, Tryz.ntmps123
    go_wp2
    go_loopw [1, 5] (fun a i wr => ∃ j : Nat, j ≤ n ∧ a = .int .i64 (k + 2 * (j : Int)) ∧ i = .int .i64 j ∧ Hid (Own2 wr base 83 (.slice (some ⟨g, 0, none⟩) n cap) n (fun i => if i < j then mkT k i else A i) (fun i => if i < j then mkH k i else B i)) ∧ Hid (Fr (fun q => (Value.slice (some ⟨g, 0, none⟩) n cap).ownBlock = some q) w wr)) (fun _ i _ => n - (intOf i).toNat)
    case atStart => exact ⟨0, Nat.zero_le _, by go_num, rfl, (unhide HV).congr (fun j hj => ⟨by simp, by simp⟩), Fr.refl _ _⟩
    case round =>
      obtain ⟨j, hj, rfl, rfl, HO, HF⟩ := hrel
      by_cases hlt : j < n
      · have bj : (j : Int) < (n : Int) := by omega
        obtain ⟨K, hK⟩ : ∃ K, K = k + 2 * (j : Int) := ⟨_, rfl⟩
        have HK := hide hK
        have hKb : 0 ≤ K ∧ K ≤ 1099513724928 := by omega
        rw [← hK]
        clear hK
        go_wp2_with fail
        refine (markText_any K _ (by omega)).mono ?_
        rintro e w1 ⟨rfl, F1⟩
        have hO1 := (unhide HO).ext F1
        obtain ⟨⟨c0, f0⟩, c1, f1⟩ := hO1.cell hlt
        have hS := hO1.set hlt (.string (mtx K)) (.bool ((K + 1) % 3 == 0))
        have HS := hide (hS.congr (A' := fun i => if i < j + 1 then mkT k i else A i) (B' := fun i => if i < j + 1 then mkH k i else B i) (fun i hi => by
          by_cases e : i = j
          · subst e
            rw [if_pos rfl, if_pos rfl, if_pos (by omega), if_pos (by omega), mkT, mkH, ← unhide HK]
            exact ⟨rfl, rfl⟩
          · rw [if_neg e, if_neg e]
            by_cases e2 : i < j
            · rw [if_pos e2, if_pos e2, if_pos (by omega), if_pos (by omega)]; exact ⟨rfl, rfl⟩
            · rw [if_neg e2, if_neg e2, if_neg (by omega), if_neg (by omega)]; exact ⟨rfl, rfl⟩))
        have HF2 := hide (((((unhide HF).grown F1 (fun q hq => by simp at hq)).setCell (a := ⟨g, j * 2, none⟩) rfl (.string (mtx K))).setCell (a := ⟨g, j * 2 + 1, none⟩) rfl (.bool ((K + 1) % 3 == 0))))
        clear hO1 hS
        go_wp2
        go_roundw
        case rel => exact ⟨j + 1, by omega, by rw [unhide HK]; go_num, by go_num, HS, HF2⟩
        case measure => simp [intOf]; omega
      · obtain rfl : j = n := by omega
        have HFIN := hide ((unhide HO).congr (A' := mkT k) (B' := mkH k) (fun i hi => ⟨by simp [hi], by simp [hi]⟩))
        go_wp2
        go_ret
        exact ⟨rfl, unhide HFIN, unhide HF⟩
set_option maxHeartbeats 1000000 in
theorem heldCellS_any (v : Value) (n : Nat) (k : Int) (w : World) (hv : Row2At w v n (mkT k) (mkH k)) (hn : n ≤ 1048576) (hk : 0 ≤ k) (hk2 : k ≤ 1099511627776) :
    Calls Tryz.prog 125 #[v, .int .i64 k] w fun e w' => e = .returned (.int .i64 (k + 2 * (n : Int))) ∧ Ext w w' := by
  obtain ⟨ao, ca, rfl, hca, hxa⟩ := hv
  by_cases h0 : n = 0
  · subst h0
    clear hxa
    go_enter Tryz.func125, Tryz.ntmps125
    go_wp2
    go_loop [1, 5] (fun a i => a = .int .i64 k ∧ i = .int .i64 0) (fun _ _ => 0)
    case atStart => exact ⟨rfl, rfl⟩
    case round =>
      obtain ⟨rfl, rfl⟩ := hrel
      go_wp2
      go_ret
      exact ⟨ret_int (by simp), Ext.refl _⟩
  · obtain ⟨b, off, rfl, hc⟩ := hxa (by omega)
    have HC := hide hc
    clear hxa hc
    go_enter Tryz.func125, Tryz.ntmps125
    go_wp2
    go_loopw [1, 5] (fun a i wr => ∃ j : Nat, j ≤ n ∧ a = .int .i64 (k + 2 * (j : Int)) ∧ i = .int .i64 j ∧ Ext w wr) (fun _ i _ => n - (intOf i).toNat)
    case atStart => exact ⟨0, Nat.zero_le _, by go_num, rfl, Ext.refl _⟩
    case round =>
      obtain ⟨j, hj, rfl, rfl, hext⟩ := hrel
      by_cases hlt : j < n
      · have bj : (j : Int) < (n : Int) := by omega
        have hcc := (unhide HC) j hlt
        have g1 := hext.cell hcc.1
        have g2 := hext.cell hcc.2
        simp only [mkT, mkH] at g1 g2
        obtain ⟨K, hK⟩ : ∃ K, K = k + 2 * (j : Int) := ⟨_, rfl⟩
        have HK := hide hK
        have hKb : 0 ≤ K ∧ K ≤ 1099513724928 := by omega
        rw [← hK] at g1 g2 ⊢
        clear hK hcc
        go_wp2
        go_region_held3 (fun W => Ext wr W ∧ W.cell? ⟨b, off + j * 2, none⟩ = some (.string (mtx K))) (first | exact ⟨(Ext.refl wr).drew, g1⟩ | exact ⟨(Ext.refl wr).drew.trans he', he'.cell g1⟩) (first | (go_at_call 124; refine (markText_any K _ (by omega)).mono ?_; rintro e w' ⟨rfl, he'⟩))
        rename_i hS
        have hE := hext.trans hS.1
        have g3 := hS.1.cell g2
        clear hS
        go_wp2
        go_roundw
        case rel => exact ⟨j + 1, by omega, by rw [unhide HK]; go_num, by go_num, hE⟩
        case measure => simp [intOf]; omega
      · obtain rfl : j = n := by omega
        go_wp2
        go_ret
        exact ⟨rfl, hext⟩
def mkS (k : Int) (j : Nat) : Value := .string (mtx (k + (j : Int)))
set_option maxHeartbeats 1000000 in
theorem markStringS_any (base : Nat) (v : Value) (n : Nat) (A : Nat → Value) (k : Int) (w : World) (hv : Own1 w base 9 v n A) (hn : n ≤ 1099511627776) (hk : 0 ≤ k) (hk2 : k ≤ 1099511627776) :
    Calls Tryz.prog 67 #[v, .int .i64 k] w fun e w' => e = .returned (.int .i64 (k + (n : Int))) ∧ Own1 w' base 9 v n (mkS k) ∧ Fr (fun g => v.ownBlock = some g) w w' := by
  have HV := hide hv
  rcases hv.form with ⟨rfl, h0⟩ | ⟨g, cap, rfl⟩
  · subst h0
    clear hv
    go_enter Tryz.func67, Tryz.ntmps67
    go_wp2
    go_loop [1, 5] (fun a i => a = .int .i64 k ∧ i = .int .i64 0) (fun _ _ => 0)
    case atStart => exact ⟨rfl, rfl⟩
    case round =>
      obtain ⟨rfl, rfl⟩ := hrel
      go_wp2
      go_ret
      exact ⟨ret_int (by simp), (unhide HV).congr (fun j hj => by omega), Fr.refl _ _⟩
  · clear hv
    go_enter Tryz.func67, Tryz.ntmps67
    go_wp2
    go_loopw [1, 5] (fun a i wr => ∃ j : Nat, j ≤ n ∧ a = .int .i64 (k + (j : Int)) ∧ i = .int .i64 j ∧ Hid (Own1 wr base 9 (.slice (some ⟨g, 0, none⟩) n cap) n (fun i => if i < j then mkS k i else A i)) ∧ Hid (Fr (fun q => (Value.slice (some ⟨g, 0, none⟩) n cap).ownBlock = some q) w wr)) (fun _ i _ => n - (intOf i).toNat)
    case atStart => exact ⟨0, Nat.zero_le _, by go_num, rfl, (unhide HV).congr (fun j hj => by simp), Fr.refl _ _⟩
    case round =>
      obtain ⟨j, hj, rfl, rfl, HO, HF⟩ := hrel
      by_cases hlt : j < n
      · have bj : (j : Int) < (n : Int) := by omega
        obtain ⟨K, hK⟩ : ∃ K, K = k + (j : Int) := ⟨_, rfl⟩
        have HK := hide hK
        have hKb : 0 ≤ K ∧ K ≤ 2199023255552 := by omega
        rw [← hK]
        clear hK
        go_wp2_with fail
        refine (markText_any K _ (by omega)).mono ?_
        rintro e w1 ⟨rfl, F1⟩
        have hO1 := (unhide HO).ext F1
        obtain ⟨c0, f0⟩ := hO1.cell hlt
        have hS := hO1.set hlt (.string (mtx K))
        have HS := hide (hS.congr (A' := fun i => if i < j + 1 then mkS k i else A i) (fun i hi => by
          by_cases e : i = j
          · subst e
            rw [if_pos rfl, if_pos (by omega), mkS, ← unhide HK]
          · rw [if_neg e]
            by_cases e2 : i < j
            · rw [if_pos e2, if_pos (by omega)]
            · rw [if_neg e2, if_neg (by omega)]))
        have HF2 := hide ((((unhide HF).grown F1 (fun q hq => by simp at hq)).setCell (a := ⟨g, j, none⟩) rfl (.string (mtx K))))
        clear hO1 hS
        go_wp2
        go_roundw
        case rel => exact ⟨j + 1, by omega, by rw [unhide HK]; go_num, by go_num, HS, HF2⟩
        case measure => simp [intOf]; omega
      · obtain rfl : j = n := by omega
        have HFIN := hide ((unhide HO).congr (A' := mkS k) (fun i hi => by simp [hi]))
        go_wp2
        go_ret
        exact ⟨rfl, unhide HFIN, unhide HF⟩
set_option maxHeartbeats 1000000 in
theorem heldStringS_any (v : Value) (n : Nat) (k : Int) (w : World) (hv : Row1At w v n (mkS k)) (hn : n ≤ 1099511627776) (hk : 0 ≤ k) (hk2 : k ≤ 1099511627776) :
    Calls Tryz.prog 70 #[v, .int .i64 k] w fun e w' => e = .returned (.int .i64 (k + (n : Int))) ∧ Ext w w' := by
  obtain ⟨ao, ca, rfl, hca, hxa⟩ := hv
  by_cases h0 : n = 0
  · subst h0
    clear hxa
    go_enter Tryz.func70, Tryz.ntmps70
    go_wp2
    go_loop [1, 5] (fun a i => a = .int .i64 k ∧ i = .int .i64 0) (fun _ _ => 0)
    case atStart => exact ⟨rfl, rfl⟩
    case round =>
      obtain ⟨rfl, rfl⟩ := hrel
      go_wp2
      go_ret
      exact ⟨ret_int (by simp), Ext.refl _⟩
  · obtain ⟨b, off, rfl, hc⟩ := hxa (by omega)
    have HC := hide hc
    clear hxa hc
    go_enter Tryz.func70, Tryz.ntmps70
    go_wp2
    go_loopw [1, 5] (fun a i wr => ∃ j : Nat, j ≤ n ∧ a = .int .i64 (k + (j : Int)) ∧ i = .int .i64 j ∧ Ext w wr) (fun _ i _ => n - (intOf i).toNat)
    case atStart => exact ⟨0, Nat.zero_le _, by go_num, rfl, Ext.refl _⟩
    case round =>
      obtain ⟨j, hj, rfl, rfl, hext⟩ := hrel
      by_cases hlt : j < n
      · have bj : (j : Int) < (n : Int) := by omega
        have g1 := hext.cell ((unhide HC) j hlt)
        simp only [mkS] at g1
        obtain ⟨K, hK⟩ : ∃ K, K = k + (j : Int) := ⟨_, rfl⟩
        have HK := hide hK
        have hKb : 0 ≤ K ∧ K ≤ 2199023255552 := by omega
        rw [← hK] at g1 ⊢
        clear hK
        go_wp2
        go_region_held3 (fun W => Ext wr W ∧ W.cell? ⟨b, off + j, none⟩ = some (.string (mtx K))) (first | exact ⟨(Ext.refl wr).drew, g1⟩ | exact ⟨(Ext.refl wr).drew.trans he', he'.cell g1⟩) (first | (go_at_call 124; refine (markText_any K _ (by omega)).mono ?_; rintro e w' ⟨rfl, he'⟩))
        rename_i hS
        have hE := hext.trans hS.1
        clear hS
        go_wp2
        go_roundw
        case rel => exact ⟨j + 1, by omega, by rw [unhide HK]; go_num, by go_num, hE⟩
        case measure => simp [intOf]; omega
      · obtain rfl : j = n := by omega
        go_wp2
        go_ret
        exact ⟨rfl, hext⟩
end Go.Proofs.YtinfdhbnljnifaaGreatDoor

namespace Go.Proofs.YtinfdhbnljnifaaGreatDoor
open Go.RowKit
def baL (s : ByteArray) : List Int := s.data.toList.map fun b => ((b.toNat : Nat) : Int)
theorem toBA_baL (s : ByteArray) : toBA (baL s) = s := by
  apply WideShapes.bytes_inj
  rw [toBA_list, baL, List.map_map]
  conv => rhs; rw [← List.map_id s.data.toList]
  apply List.map_congr_left
  intro b _
  simp
theorem baL_len (s : ByteArray) : (baL s).length = s.size := by simp [baL]
theorem baL_bytes (s : ByteArray) : Bytes (baL s) := by
  intro n hn
  obtain ⟨b, _, rfl⟩ := List.mem_map.1 hn
  have := b.toNat_lt
  omega
theorem Bytes.app {xs ys : List Int} (hx : Bytes xs) (hy : Bytes ys) : Bytes (xs ++ ys) := by
  intro n hn
  rcases List.mem_append.1 hn with h | h
  · exact hx n h
  · exact hy n h
theorem baL_toBA {xs : List Int} (h : Bytes xs) : baL (toBA xs) = xs := toBA_inj (baL_bytes _) h (toBA_baL _)
end Go.Proofs.YtinfdhbnljnifaaGreatDoor

namespace Go.Proofs.YtinfdhbnljnifaaGreatDoor
open Go.RowKit
def GridAt (w : World) (v : Value) (R : Nat) (C : Nat → Nat) (A B : Nat → Nat → Value) : Prop :=
  ∃ rv : Nat → Value, Row1At w v R rv ∧ ∀ i, i < R → Row2At w (rv i) (C i) (A i) (B i)
theorem GridAt.ext {w w' : World} {v : Value} {R : Nat} {C : Nat → Nat} {A B : Nat → Nat → Value} (h : GridAt w v R C A B) (he : Ext w w') : GridAt w' v R C A B := by
  obtain ⟨rv, h1, h2⟩ := h
  exact ⟨rv, h1.ext he, fun i hi => (h2 i hi).ext he⟩
def OwnGrid (w : World) (base : Nat) (v : Value) (rv : Nat → Value) (R : Nat) (C : Nat → Nat) (A B : Nat → Nat → Value) : Prop :=
  Own1 w base 81 v R rv ∧ (∀ i, i < R → Own2 w base 83 (rv i) (C i) (A i) (B i)) ∧ (∀ i j g, i < j → j < R → (rv i).ownBlock = some g → (rv j).ownBlock ≠ some g)
def GFoot (v : Value) (rv : Nat → Value) (R : Nat) (g : Nat) : Prop := v.ownBlock = some g ∨ ∃ i, i < R ∧ (rv i).ownBlock = some g
section
variable {w w' : World} {base : Nat} {v : Value} {rv : Nat → Value} {R : Nat} {C : Nat → Nat} {A B : Nat → Nat → Value}
theorem OwnGrid.ext (h : OwnGrid w base v rv R C A B) (he : Ext w w') : OwnGrid w' base v rv R C A B := ⟨h.1.ext he, fun i hi => (h.2.1 i hi).ext he, h.2.2⟩
theorem OwnGrid.reads (h : OwnGrid w base v rv R C A B) : GridAt w v R C A B := ⟨rv, h.1.reads, fun i hi => (h.2.1 i hi).reads⟩
theorem OwnGrid.foot (h : OwnGrid w base v rv R C A B) {g : Nat} (hg : GFoot v rv R g) : base ≤ g ∧ g < w.heap.size := by
  rcases hg with hg | ⟨i, hi, hg⟩
  · exact h.1.lt g hg
  · exact (h.2.1 i hi).lt g hg
theorem OwnGrid.fr {S : Nat → Prop} (h : OwnGrid w base v rv R C A B) (hf : Fr S w w') (hS : ∀ g, GFoot v rv R g → ¬ S g) : OwnGrid w' base v rv R C A B :=
  ⟨h.1.fr hf (fun g hg => hS g (.inl hg)), fun i hi => (h.2.1 i hi).fr hf (fun g hg => hS g (.inr ⟨i, hi, hg⟩)), h.2.2⟩
theorem OwnGrid.apart (h : OwnGrid w base v rv R C A B) {i g : Nat} (hi : i < R) (hg : (rv i).ownBlock = some g) : v.ownBlock ≠ some g := by
  obtain ⟨ys, h1, _⟩ := h.1
  obtain ⟨zs, h2, _⟩ := h.2.1 i hi
  exact owns_apart h2 h1 (by decide) hg
theorem OwnGrid.row {A' B' : Nat → Value} {j : Nat} (h : OwnGrid w base v rv R C A B) (hj : j < R) (ho : Own2 w' base 83 (rv j) (C j) A' B') (hf : Fr (fun g => (rv j).ownBlock = some g) w w') :
    OwnGrid w' base v rv R C (fun i => if i = j then A' else A i) (fun i => if i = j then B' else B i) := by
  refine ⟨h.1.fr hf (fun g hg e => h.apart hj e hg), fun i hi => ?_, h.2.2⟩
  dsimp only
  by_cases e : i = j
  · subst e; rw [if_pos rfl, if_pos rfl]; exact ho
  · rw [if_neg e, if_neg e]
    refine (h.2.1 i hi).fr hf (fun g hg e2 => ?_)
    rcases Nat.lt_or_gt_of_ne e with h5 | h5
    · exact h.2.2 i j g h5 hj hg e2
    · exact h.2.2 j i g h5 hi e2 hg
theorem OwnGrid.congr {A' B' : Nat → Nat → Value} (h : OwnGrid w base v rv R C A B) (e : ∀ i, i < R → A i = A' i ∧ B i = B' i) : OwnGrid w base v rv R C A' B' :=
  ⟨h.1, fun i hi => by rw [← (e i hi).1, ← (e i hi).2]; exact h.2.1 i hi, h.2.2⟩
end
set_option maxHeartbeats 1000000 in
theorem eqCellSS_same (va vb : Value) (R : Nat) (C : Nat → Nat) (tx : Nat → Nat → ByteArray) (hf : Nat → Nat → Bool) (w : World) (ha : GridAt w va R C (fun i j => .string (tx i j)) (fun i j => .bool (hf i j))) (hb : GridAt w vb R C (fun i j => .string (tx i j)) (fun i j => .bool (hf i j))) (hl : R ≤ 4398046511104) (hC : ∀ i, i < R → C i ≤ 4398046511104) :
    Calls Tryz.prog 64 #[va, vb] w fun e w' => e = .returned (.bool true) ∧ Ext w w' := by
  obtain ⟨ra, ⟨ao, ca, rfl, hca, hxa⟩, hra⟩ := ha
  obtain ⟨rb, ⟨bo, cb, rfl, hcb, hxb⟩, hrb⟩ := hb
  by_cases h0 : R = 0
  · subst h0
    clear hxa hxb
    go_enter Tryz.func64, Tryz.ntmps64
    go_wp2
    go_loop [5] (fun i => i = .int .i64 0) (fun _ => 0)
    case atStart => rfl
    case round =>
      subst hrel
      go_wp2
      go_ret
      exact ⟨rfl, Ext.refl _⟩
  · obtain ⟨b1, o1, rfl, h1⟩ := hxa (by omega)
    obtain ⟨b2, o2, rfl, h2⟩ := hxb (by omega)
    clear hxa hxb
    have H1 := hide h1
    have H2 := hide h2
    have HA := hide hra
    have HB := hide hrb
    have HC := hide hC
    clear h1 h2 hra hrb hC
    go_enter Tryz.func64, Tryz.ntmps64
    go_wp2
    go_loopw [5] (fun i w' => ∃ k : Nat, k ≤ R ∧ i = .int .i64 k ∧ Ext w w') (fun i _ => R - (intOf i).toNat)
    case atStart => exact ⟨0, Nat.zero_le _, rfl, Ext.refl _⟩
    case round =>
      obtain ⟨k, hk, rfl, hext⟩ := hrel
      by_cases hlt : k < R
      · have g1 := hext.cell ((unhide H1) k hlt)
        have g3 := hext.cell ((unhide H2) k hlt)
        have bk : (k : Int) < (R : Int) := by omega
        have hc := hide (fun W (hW : Ext wr W) => eqCellS_same (ra k) (rb k) (C k) (tx k) (hf k) W (((unhide HA) k hlt).ext (hext.trans hW)) (((unhide HB) k hlt).ext (hext.trans hW)) ((unhide HC) k hlt))
        go_wp2
        go_region_held3 (fun W => Ext wr W ∧ W.cell? ⟨b1, o1 + k, none⟩ = some (ra k) ∧ W.cell? ⟨b2, o2 + k, none⟩ = some (rb k)) (first | exact ⟨(Ext.refl wr).drew, g1, g3⟩ | exact ⟨(Ext.refl wr).drew.trans he', he'.cell g1, he'.cell g3⟩) (first | (go_at_call 122; refine ((unhide hc) _ (Ext.refl wr).drew).mono ?_; rintro e w' ⟨rfl, he'⟩))
        rename_i hS
        have hE := hext.trans hS.1
        clear hS g1 g3
        go_wp2
        go_roundw
        case rel => exact ⟨k + 1, by omega, by go_num, hE⟩
        case measure => simp [intOf]; omega
      · go_wp2
        go_ret
        exact ⟨rfl, hext⟩
def gk (k : Int) (C : Nat → Nat) : Nat → Int
  | 0 => k
  | i + 1 => gk k C i + 2 * (C i : Int)
set_option maxHeartbeats 1000000 in
theorem markCellSS_any (base : Nat) (v : Value) (rv : Nat → Value) (R : Nat) (C : Nat → Nat) (A B : Nat → Nat → Value) (k : Int) (w : World) (hv : OwnGrid w base v rv R C A B) (hn : R ≤ 1048576) (hC : ∀ i, i < R → C i ≤ 1048576) (hS : ∀ i, i ≤ R → 0 ≤ gk k C i ∧ gk k C i ≤ 1099511627776) :
    Calls Tryz.prog 66 #[v, .int .i64 k] w fun e w' => e = .returned (.int .i64 (gk k C R)) ∧ OwnGrid w' base v rv R C (fun i => mkT (gk k C i)) (fun i => mkH (gk k C i)) ∧ Fr (GFoot v rv R) w w' := by
  have HV := hide hv
  have HC := hide hC
  have HSM := hide hS
  rcases hv.1.form with ⟨rfl, h0⟩ | ⟨g, cap, rfl⟩
  · subst h0
    clear hv hC hS
    have hk0 : Hid (gk k C 0 = k) := rfl
    rw [hk0.out]
    go_enter Tryz.func66, Tryz.ntmps66
    go_wp2
    go_loop [1, 5] (fun a i => a = .int .i64 k ∧ i = .int .i64 0) (fun _ _ => 0)
    case atStart => exact ⟨rfl, rfl⟩
    case round =>
      obtain ⟨rfl, rfl⟩ := hrel
      go_wp2
      go_ret
      exact ⟨rfl, (unhide HV).congr (fun i hi => by omega), Fr.refl _ _⟩
  · clear hv hC hS
    go_enter Tryz.func66, Tryz.ntmps66
    go_wp2
    go_loopw [1, 5] (fun a i wr => ∃ j : Nat, j ≤ R ∧ a = .int .i64 (gk k C j) ∧ i = .int .i64 j ∧ Hid (OwnGrid wr base (.slice (some ⟨g, 0, none⟩) R cap) rv R C (fun i => if i < j then mkT (gk k C i) else A i) (fun i => if i < j then mkH (gk k C i) else B i)) ∧ Hid (Fr (GFoot (.slice (some ⟨g, 0, none⟩) R cap) rv R) w wr)) (fun _ i _ => R - (intOf i).toNat)
    case atStart => exact ⟨0, Nat.zero_le _, rfl, rfl, (unhide HV).congr (fun i hi => ⟨by simp, by simp⟩), Fr.refl _ _⟩
    case round =>
      obtain ⟨j, hj, rfl, rfl, HO, HF⟩ := hrel
      by_cases hlt : j < R
      · have bj : (j : Int) < (R : Int) := by omega
        have c0 := ((unhide HO).1.cell hlt).1
        have hk1 := (unhide HSM) j (by omega)
        have hst : Hid (gk k C (j + 1) = gk k C j + 2 * (C j : Int)) := rfl
        have hcon := hide (markCellS_any base (rv j) (C j) _ _ (gk k C j) wr ((unhide HO).2.1 j hlt) ((unhide HC) j hlt) hk1.1 hk1.2)
        go_wp2_with fail
        refine (unhide hcon).mono ?_
        rintro e w1 ⟨rfl, ho, hf⟩
        have HS := hide (((unhide HO).row hlt ho hf).congr (A' := fun i => if i < j + 1 then mkT (gk k C i) else A i) (B' := fun i => if i < j + 1 then mkH (gk k C i) else B i) (fun i hi => by
          by_cases e : i = j
          · subst e
            rw [if_pos rfl, if_pos rfl, if_pos (by omega), if_pos (by omega)]
            exact ⟨rfl, rfl⟩
          · rw [if_neg e, if_neg e]
            by_cases e2 : i < j
            · rw [if_pos e2, if_pos e2, if_pos (by omega), if_pos (by omega)]; exact ⟨rfl, rfl⟩
            · rw [if_neg e2, if_neg e2, if_neg (by omega), if_neg (by omega)]; exact ⟨rfl, rfl⟩))
        have HF2 : Hid (Fr (GFoot (.slice (some ⟨g, 0, none⟩) R cap) rv R) w w1) := by
          have h1 := unhide HF
          exact ⟨hf.os.trans h1.os, hf.tape.trans h1.tape, hf.output.trans h1.output, Nat.le_trans h1.size hf.size, fun q hq hn => (hf.block q (Nat.lt_of_lt_of_le hq h1.size) (fun e => hn (.inr ⟨j, hlt, e⟩))).trans (h1.block q hq hn)⟩
        clear ho hf
        go_wp2
        go_roundw
        case rel => exact ⟨j + 1, by omega, by rw [hst.out], by go_num, HS, HF2⟩
        case measure => simp [intOf]; omega
      · obtain rfl : j = R := by omega
        have HFIN := hide ((unhide HO).congr (A' := fun i => mkT (gk k C i)) (B' := fun i => mkH (gk k C i)) (fun i hi => ⟨by simp [hi], by simp [hi]⟩))
        go_wp2
        go_ret
        exact ⟨rfl, unhide HFIN, unhide HF⟩
set_option maxHeartbeats 1000000 in
theorem heldCellSS_any (v : Value) (R : Nat) (C : Nat → Nat) (k : Int) (w : World) (hv : GridAt w v R C (fun i => mkT (gk k C i)) (fun i => mkH (gk k C i))) (hn : R ≤ 1048576) (hC : ∀ i, i < R → C i ≤ 1048576) (hS : ∀ i, i ≤ R → 0 ≤ gk k C i ∧ gk k C i ≤ 1099511627776) :
    Calls Tryz.prog 68 #[v, .int .i64 k] w fun e w' => e = .returned (.int .i64 (gk k C R)) ∧ Ext w w' := by
  obtain ⟨rv, ⟨ao, ca, rfl, hca, hxa⟩, hr⟩ := hv
  have HR := hide hr
  have HC := hide hC
  have HSM := hide hS
  have HXA := hide hxa
  clear hr hC hS hxa
  by_cases h0 : R = 0
  · subst h0
    have hk0 : Hid (gk k C 0 = k) := rfl
    rw [hk0.out]
    go_enter Tryz.func68, Tryz.ntmps68
    go_wp2
    go_loop [1, 5] (fun a i => a = .int .i64 k ∧ i = .int .i64 0) (fun _ _ => 0)
    case atStart => exact ⟨rfl, rfl⟩
    case round =>
      obtain ⟨rfl, rfl⟩ := hrel
      go_wp2
      go_ret
      exact ⟨rfl, Ext.refl _⟩
  · obtain ⟨b, off, rfl, hc⟩ := (unhide HXA) (by omega)
    have HCL := hide hc
    clear HXA hc
    go_enter Tryz.func68, Tryz.ntmps68
    go_wp2
    go_loopw [1, 5] (fun a i wr => ∃ j : Nat, j ≤ R ∧ a = .int .i64 (gk k C j) ∧ i = .int .i64 j ∧ Ext w wr) (fun _ i _ => R - (intOf i).toNat)
    case atStart => exact ⟨0, Nat.zero_le _, rfl, rfl, Ext.refl _⟩
    case round =>
      obtain ⟨j, hj, rfl, rfl, hext⟩ := hrel
      by_cases hlt : j < R
      · have bj : (j : Int) < (R : Int) := by omega
        have g1 := hext.cell ((unhide HCL) j hlt)
        have hk1 := (unhide HSM) j (by omega)
        have hst : Hid (gk k C (j + 1) = gk k C j + 2 * (C j : Int)) := rfl
        have hcon := hide (heldCellS_any (rv j) (C j) (gk k C j) wr (((unhide HR) j hlt).ext hext) ((unhide HC) j hlt) hk1.1 hk1.2)
        have hcj := (unhide HC) j hlt
        rw [← hst.out] at hcon
        have hneg : ¬ gk k C (j + 1) < 0 := by have := ((unhide HSM) (j + 1) (by omega)).1; omega
        go_wp2_with fail
        refine (unhide hcon).mono ?_
        rintro e w1 ⟨rfl, he⟩
        have hE := hext.trans he
        go_wp2
        go_roundw
        case rel => exact ⟨j + 1, by omega, rfl, by go_num, hE⟩
        case measure => simp [intOf]; omega
      · obtain rfl : j = R := by omega
        go_wp2
        go_ret
        exact ⟨rfl, hext⟩
end Go.Proofs.YtinfdhbnljnifaaGreatDoor

namespace Go.Proofs.YtinfdhbnljnifaaGreatDoor
open Go.RowKit
structure SD where
  cols : Int
  rows : Int
  row : Int
  col : Int
  late : Bool
  R : Nat
  C : Nat → Nat
  tx : Nat → Nat → ByteArray
  hf : Nat → Nat → Bool
  hold : List Int
  nb : Nat
  bk : Nat → ByteArray
def scrV (d : SD) (gv hv bv : Value) : Value := .agg #[.int .i64 d.cols, .int .i64 d.rows, gv, .int .i64 d.row, .int .i64 d.col, .bool d.late, hv, bv]
def ScrAt (w : World) (d : SD) (gv hv bv : Value) : Prop :=
  GridAt w gv d.R d.C (fun i j => .string (d.tx i j)) (fun i j => .bool (d.hf i j)) ∧ IntsAt w .u8 hv d.hold ∧ Row1At w bv d.nb (fun j => .string (d.bk j))
theorem ScrAt.ext {w w' : World} {d : SD} {gv hv bv : Value} (h : ScrAt w d gv hv bv) (he : Ext w w') : ScrAt w' d gv hv bv := ⟨h.1.ext he, h.2.1.ext he, h.2.2.ext he⟩
structure SD.Fits (d : SD) : Prop where
  R : d.R ≤ 1048576
  C : ∀ i, i < d.R → d.C i ≤ 1048576
  hold : d.hold.length ≤ 1048576
  nb : d.nb ≤ 16777216
def OwnScr (w : World) (base : Nat) (d : SD) (gv : Value) (rv : Nat → Value) (hv bv : Value) : Prop :=
  OwnGrid w base gv rv d.R d.C (fun i j => .string (d.tx i j)) (fun i j => .bool (d.hf i j)) ∧ w.ownsRow base 5 1 hv d.hold.length (d.hold.map (Value.int .u8)) ∧ Own1 w base 9 bv d.nb (fun j => .string (d.bk j))
theorem OwnScr.ext {w w' : World} {base : Nat} {d : SD} {gv : Value} {rv : Nat → Value} {hv bv : Value} (h : OwnScr w base d gv rv hv bv) (he : Ext w w') : OwnScr w' base d gv rv hv bv := ⟨h.1.ext he, he.owns h.2.1, h.2.2.ext he⟩
theorem OwnScr.reads {w : World} {base : Nat} {d : SD} {gv : Value} {rv : Nat → Value} {hv bv : Value} (h : OwnScr w base d gv rv hv bv) : ScrAt w d gv hv bv := ⟨h.1.reads, ints_of_owns h.2.1, h.2.2.reads⟩
def SFoot (d : SD) (gv : Value) (rv : Nat → Value) (hv bv : Value) (g : Nat) : Prop := GFoot gv rv d.R g ∨ hv.ownBlock = some g ∨ bv.ownBlock = some g
theorem OwnScr.foot {w : World} {base : Nat} {d : SD} {gv : Value} {rv : Nat → Value} {hv bv : Value} (h : OwnScr w base d gv rv hv bv) {g : Nat} (hg : SFoot d gv rv hv bv g) : base ≤ g ∧ g < w.heap.size := by
  rcases hg with hg | hg | hg
  · exact h.1.foot hg
  · exact h.2.1.lt g hg
  · exact h.2.2.lt g hg
theorem OwnScr.fr {S : Nat → Prop} {w w' : World} {base : Nat} {d : SD} {gv : Value} {rv : Nat → Value} {hv bv : Value} (h : OwnScr w base d gv rv hv bv) (hf : Fr S w w') (hS : ∀ g, SFoot d gv rv hv bv g → ¬ S g) : OwnScr w' base d gv rv hv bv :=
  ⟨h.1.fr hf (fun g hg => hS g (.inl hg)), hf.owns h.2.1 (fun g hg => hS g (.inr (.inl hg))), h.2.2.fr hf (fun g hg => hS g (.inr (.inr hg)))⟩
set_option maxHeartbeats 2000000 in
theorem eqScreen_same (d : SD) (ga ha ba gb hb bb : Value) (w : World) (h1 : ScrAt w d ga ha ba) (h2 : ScrAt w d gb hb bb) (hF : d.Fits) :
    Calls Tryz.prog 17 #[scrV d ga ha ba, scrV d gb hb bb] w fun e w' => e = .returned (.bool true) ∧ Ext w w' := by
  obtain ⟨f1, f2, f3, f4⟩ := hF
  have H1 := hide h1
  have H2 := hide h2
  have HF2 := hide f2
  clear h1 h2 f2
  unfold scrV
  go_enter Tryz.func17, Tryz.ntmps17
  go_wp2_with fail
  have E0 : ∀ a b, Ext w ((w.alloc a).alloc b) := fun a b => ((Ext.refl _).alloc _).alloc _
  refine (eqCellSS_same _ _ d.R d.C d.tx d.hf _ ((unhide H1).ext (E0 _ _)).1 ((unhide H2).ext (E0 _ _)).1 (by omega) (fun i hi => by have := (unhide HF2) i hi; omega)).mono ?_
  rintro e w1 ⟨rfl, F1⟩
  have E1 := (E0 _ _).trans F1
  obtain ⟨hc, hfz⟩ := F1.rules
  go_wp2_with fail
  refine (eqByteS_same _ _ d.hold _ ((unhide H1).ext E1).2.1 ((unhide H2).ext E1).2.1 (by omega)).mono ?_
  rintro e w2 ⟨rfl, F2⟩
  have E2 := E1.trans F2
  obtain ⟨hc2, hfz2⟩ := (F1.trans F2).rules
  clear hc hfz
  go_wp2_with fail
  refine (eqStringS_same _ _ d.nb d.bk _ ((unhide H1).ext E2).2.2 ((unhide H2).ext E2).2.2 (by omega)).mono ?_
  rintro e w3 ⟨rfl, F3⟩
  go_wp2
  go_ret
  exact ⟨rfl, E2.trans F3⟩
theorem Fr.trans {S : Nat → Prop} {a b c : World} (h : Fr S a b) (k : Fr S b c) : Fr S a c :=
  ⟨k.os.trans h.os, k.tape.trans h.tape, k.output.trans h.output, Nat.le_trans h.size k.size, fun i hi hn => (k.block i (Nat.lt_of_lt_of_le hi h.size) hn).trans (h.block i hi hn)⟩
def sk1 (k : Int) (d : SD) : Int := gk k d.C d.R
def sk2 (k : Int) (d : SD) : Int := sk1 k d + (d.hold.length : Int)
def sk3 (k : Int) (d : SD) : Int := sk2 k d + (d.nb : Int)
def mkSD (k : Int) (d : SD) : SD := { d with tx := fun i j => mtx (gk k d.C i + 2 * (j : Int)), hf := fun i j => (gk k d.C i + 2 * (j : Int) + 1) % 3 == 0, hold := mkU8 (sk1 k d) d.hold.length, bk := fun j => mtx (sk2 k d + (j : Int)) }
def SD.Small (k : Int) (d : SD) : Prop := ∀ i, i ≤ d.R → 0 ≤ gk k d.C i ∧ gk k d.C i ≤ 549755813888
theorem OwnScr.kinds {w : World} {base : Nat} {d : SD} {gv : Value} {rv : Nat → Value} {hv bv : Value} (h : OwnScr w base d gv rv hv bv) :
    (∀ g, GFoot gv rv d.R g → hv.ownBlock ≠ some g ∧ bv.ownBlock ≠ some g) ∧ (∀ g, hv.ownBlock = some g → bv.ownBlock ≠ some g) := by
  obtain ⟨⟨⟨ys, a1, _⟩, a2, _⟩, a3, ⟨zs, a4, _⟩⟩ := h
  refine ⟨fun g hg => ?_, fun g hg => owns_apart a3 a4 (by decide) hg⟩
  rcases hg with hg | ⟨i, hi, hg⟩
  · exact ⟨owns_apart a1 a3 (by decide) hg, owns_apart a1 a4 (by decide) hg⟩
  · obtain ⟨xs, b1, _⟩ := a2 i hi
    exact ⟨owns_apart b1 a3 (by decide) hg, owns_apart b1 a4 (by decide) hg⟩
set_option maxHeartbeats 2000000 in
theorem markScreen_any (base : Nat) (d : SD) (gv : Value) (rv : Nat → Value) (hv bv : Value) (k : Int) (w : World) (h : OwnScr w base d gv rv hv bv) (hF : d.Fits) (hS : d.Small k) :
    Calls Tryz.prog 19 #[scrV d gv hv bv, .int .i64 k] w fun e w' => e = .returned (.int .i64 (sk3 k d)) ∧ OwnScr w' base (mkSD k d) gv rv hv bv ∧ Fr (SFoot d gv rv hv bv) w w' := by
  obtain ⟨f1, f2, f3, f4⟩ := hF
  have HH := hide h
  have HF2 := hide f2
  have HSM := hide hS
  have hk1 := hS d.R (Nat.le_refl _)
  have hs1 : Hid (sk1 k d = gk k d.C d.R) := rfl
  have hs2 : Hid (sk2 k d = sk1 k d + (d.hold.length : Int)) := rfl
  have hs3 : Hid (sk3 k d = sk2 k d + (d.nb : Int)) := rfl
  rw [← hs1.out] at hk1
  have hk2 : 0 ≤ sk2 k d ∧ sk2 k d ≤ 549756862464 := by rw [hs2.out]; omega
  obtain ⟨kd1, kd2⟩ := h.kinds
  have K1 := hide kd1
  have K2 := hide kd2
  clear h f2 hS kd1 kd2
  unfold scrV
  go_enter Tryz.func19, Tryz.ntmps19
  go_wp2_with fail
  refine (markCellSS_any base gv rv d.R d.C _ _ k _ ((unhide HH).1.ext ((Ext.refl _).alloc _)) f1 (unhide HF2) (fun i hi => by have := (unhide HSM) i hi; omega)).mono ?_
  rw [← hs1.out]
  rintro e w1 ⟨rfl, og1, fr1⟩
  have E0 : Ext w (w.alloc (.cells #[.int .i64 d.cols, .int .i64 d.rows, gv, .int .i64 d.row, .int .i64 d.col, .bool d.late, hv, bv] 26)) := (Ext.refl _).alloc _
  have oh1 := fr1.owns (E0.owns (unhide HH).2.1) (fun g hg e => ((unhide K1) g e).1 hg)
  have ob1 := ((unhide HH).2.2.ext E0).fr fr1 (fun g hg e => ((unhide K1) g e).2 hg)
  have hblk : ∀ g, SFoot d gv rv hv bv g → g < w.heap.size := fun g hg => ((unhide HH).foot hg).2
  have HBLK := hide hblk
  have hbox : ∀ o, w1.cell? ⟨w.heap.size, o, none⟩ = (w.alloc (.cells #[.int .i64 d.cols, .int .i64 d.rows, gv, .int .i64 d.row, .int .i64 d.col, .bool d.late, hv, bv] 26)).cell? ⟨w.heap.size, o, none⟩ := fun o => by
    refine World.cell?_of_block (a := ⟨w.heap.size, o, none⟩) (fr1.block _ (by simp) (fun e => ?_))
    have := hblk w.heap.size (.inl e); omega
  have b6 := hbox 6
  have b7 := hbox 7
  simp [go_sem] at b6 b7
  have FR1 := hide (Fr.trans (Fr.of_ext (S := SFoot d gv rv hv bv) E0) (fr1.mono (fun k hk => .inl hk)))
  have OG1 := hide og1
  have OB1 := hide ob1
  clear hbox hblk og1 ob1 fr1
  go_wp2_with fail
  refine (markByteS_any base hv _ _ (sk1 k d) _ oh1 (by omega) hk1.1 (by omega)).mono ?_
  rw [← hs2.out]
  rintro e w2 ⟨rfl, oh2, gr2⟩
  have fr2 : Fr (fun g => hv.ownBlock = some g) w1 w2 := (Fr.refl _ _).grown gr2 (fun q hq => hq)
  have og2 := (unhide OG1).fr fr2 (fun g hg e => ((unhide K1) g hg).1 e)
  have ob2 := (unhide OB1).fr fr2 (fun g hg e => (unhide K2) g e hg)
  have b72 : w2.cell? ⟨w.heap.size, 7, none⟩ = some bv := by
    refine (World.cell?_of_block (a := ⟨w.heap.size, 7, none⟩) (fr2.block _ (lt_of_cell b7) (fun e => ?_))).trans b7
    have := (unhide HBLK) w.heap.size (.inr (.inl e)); omega
  have FR2 := hide ((unhide FR1).trans (fr2.mono (fun k hk => .inr (.inl hk))))
  have OG2 := hide og2
  have OH2 := hide oh2
  clear og2 oh2 fr2 gr2 oh1 b6 b7
  go_wp2_with fail
  refine (markStringS_any base bv d.nb _ (sk2 k d) _ ob2 (by omega) hk2.1 (by omega)).mono ?_
  rw [← hs3.out]
  rintro e w3 ⟨rfl, ob3, fr3⟩
  have og3 := (unhide OG2).fr fr3 (fun g hg e => ((unhide K1) g hg).2 e)
  have oh3 := fr3.owns (unhide OH2) (fun g hg e => (unhide K2) g hg e)
  have FR3 := hide ((unhide FR2).trans (fr3.mono (fun k hk => .inr (.inr hk))))
  have HFIN : Hid (OwnScr w3 base (mkSD k d) gv rv hv bv) := by
    refine ⟨og3, ?_, ob3⟩
    show w3.ownsRow base 5 1 hv (mkU8 (sk1 k d) d.hold.length).length ((mkU8 (sk1 k d) d.hold.length).map (Value.int .u8))
    rw [mkU8_len]; exact oh3
  clear og3 oh3 ob3 fr3
  go_wp2
  go_ret
  exact ⟨rfl, unhide HFIN, unhide FR3⟩
set_option maxHeartbeats 2000000 in
theorem heldScreen_any (d : SD) (gv hv bv : Value) (k : Int) (w : World) (h : ScrAt w (mkSD k d) gv hv bv) (hF : d.Fits) (hS : d.Small k) :
    Calls Tryz.prog 21 #[scrV d gv hv bv, .int .i64 k] w fun e w' => e = .returned (.int .i64 (sk3 k d)) ∧ Ext w w' := by
  obtain ⟨f1, f2, f3, f4⟩ := hF
  have HH := hide h
  have HF2 := hide f2
  have HSM := hide hS
  have hk1 := hS d.R (Nat.le_refl _)
  have hs1 : Hid (sk1 k d = gk k d.C d.R) := rfl
  have hs2 : Hid (sk2 k d = sk1 k d + (d.hold.length : Int)) := rfl
  have hs3 : Hid (sk3 k d = sk2 k d + (d.nb : Int)) := rfl
  rw [← hs1.out] at hk1
  have hk2 : 0 ≤ sk2 k d ∧ sk2 k d ≤ 549756862464 := by rw [hs2.out]; omega
  have hk3 : 0 ≤ sk3 k d := by rw [hs3.out]; omega
  have hn1 : ¬ sk1 k d < 0 := by omega
  have hn2 : ¬ sk2 k d < 0 := by omega
  have hn3 : ¬ sk3 k d < 0 := by omega
  clear h f2 hS
  unfold scrV
  go_enter Tryz.func21, Tryz.ntmps21
  go_wp2_with fail
  have E0 : ∀ a, Ext w (w.alloc a) := fun a => (Ext.refl _).alloc _
  refine (heldCellSS_any gv d.R d.C k _ ((unhide HH).ext (E0 _)).1 f1 (unhide HF2) (fun i hi => by have := (unhide HSM) i hi; omega)).mono ?_
  rw [← hs1.out]
  rintro e w1 ⟨rfl, F1⟩
  have E1 := (E0 _).trans F1
  obtain ⟨hc, hfz⟩ := F1.rules
  have hcon := hide (fun W (hW : Ext w W) => heldByteS_any hv d.hold.length (sk1 k d) W ((unhide HH).ext hW).2.1 (by omega) hk1.1 (by omega))
  rw [← hs2.out] at hcon
  go_wp2_with fail
  refine ((unhide hcon) _ E1).mono ?_
  rintro e w2 ⟨rfl, F2⟩
  have E2 := E1.trans F2
  obtain ⟨hc2, hfz2⟩ := (F1.trans F2).rules
  clear hc hfz
  have hcon2 := hide (fun W (hW : Ext w W) => heldStringS_any bv d.nb (sk2 k d) W ((unhide HH).ext hW).2.2 (by omega) hk2.1 (by omega))
  rw [← hs3.out] at hcon2
  go_wp2_with fail
  refine ((unhide hcon2) _ E2).mono ?_
  rintro e w3 ⟨rfl, F3⟩
  go_wp2
  go_ret
  exact ⟨rfl, E2.trans F3⟩
end Go.Proofs.YtinfdhbnljnifaaGreatDoor

namespace Go.Proofs.YtinfdhbnljnifaaGreatDoor
open Go.RowKit
def SBox (W : World) (b : Nat) (d : SD) (gv hv bv : Value) : Prop :=
  W.cell? ⟨b, 0, none⟩ = some (.int .i64 d.cols) ∧ W.cell? ⟨b, 1, none⟩ = some (.int .i64 d.rows) ∧ W.cell? ⟨b, 2, none⟩ = some gv ∧ W.cell? ⟨b, 3, none⟩ = some (.int .i64 d.row) ∧ W.cell? ⟨b, 4, none⟩ = some (.int .i64 d.col) ∧ W.cell? ⟨b, 5, none⟩ = some (.bool d.late) ∧ W.cell? ⟨b, 6, none⟩ = some hv ∧ W.cell? ⟨b, 7, none⟩ = some bv
theorem SBox.fr {S : Nat → Prop} {W W' : World} {b : Nat} {d : SD} {gv hv bv : Value} (h : SBox W b d gv hv bv) (hf : Fr S W W') (hS : ¬ S b) : SBox W' b d gv hv bv := by
  obtain ⟨h0, h1, h2, h3, h4, h5, h6, h7⟩ := h
  have hb := hf.block b (lt_of_cell h0) hS
  exact ⟨(World.cell?_of_block (a := ⟨b, 0, none⟩) hb).trans h0, (World.cell?_of_block (a := ⟨b, 1, none⟩) hb).trans h1, (World.cell?_of_block (a := ⟨b, 2, none⟩) hb).trans h2, (World.cell?_of_block (a := ⟨b, 3, none⟩) hb).trans h3, (World.cell?_of_block (a := ⟨b, 4, none⟩) hb).trans h4, (World.cell?_of_block (a := ⟨b, 5, none⟩) hb).trans h5, (World.cell?_of_block (a := ⟨b, 6, none⟩) hb).trans h6, (World.cell?_of_block (a := ⟨b, 7, none⟩) hb).trans h7⟩
theorem SBox.ext {W W' : World} {b : Nat} {d : SD} {gv hv bv : Value} (h : SBox W b d gv hv bv) (he : Ext W W') : SBox W' b d gv hv bv := h.fr (Fr.of_ext (S := fun _ => False) he) (fun e => e)
theorem SBox.new (w : World) (d : SD) (gv hv bv : Value) : SBox (w.alloc (.cells #[.int .i64 d.cols, .int .i64 d.rows, gv, .int .i64 d.row, .int .i64 d.col, .bool d.late, hv, bv] 26)) w.heap.size d gv hv bv := by
  unfold SBox; simp [go_sem]
theorem ScrAt.forms {w : World} {d : SD} {gv hv bv : Value} (h : ScrAt w d gv hv bv) : ∃ ga gc ha hc ba bc, gv = .slice ga d.R gc ∧ hv = .slice ha d.hold.length hc ∧ bv = .slice ba d.nb bc := by
  obtain ⟨⟨_, ⟨ao, ca, e1, _⟩, _⟩, ⟨ah, ch, e2, _⟩, ⟨ab, cb, e3, _⟩⟩ := h
  exact ⟨ao, ca, ah, ch, ab, cb, e1, e2, e3⟩
end Go.Proofs.YtinfdhbnljnifaaGreatDoor

namespace Go.Proofs.YtinfdhbnljnifaaGreatDoor
open Go.RowKit
theorem Own2.setA {w : World} {base : Nat} {T : TypeId} {n : Nat} {A B : Nat → Value} {g cap j : Nat} (h : Own2 w base T (.slice (some ⟨g, 0, none⟩) n cap) n A B) (hj : j < n) (u : Value) :
    Own2 (w.setCell ⟨g, j * 2, none⟩ u) base T (.slice (some ⟨g, 0, none⟩) n cap) n (fun i => if i = j then u else A i) B := by
  obtain ⟨ys, h1, h2⟩ := h
  have hl := h1.1
  refine ⟨_, (h1.stored (j * 2) u).1, fun i hi => ?_⟩
  dsimp only
  by_cases e : i = j
  · subst e
    rw [if_pos rfl, List.getElem?_set_self (by omega), List.getElem?_set_ne (by omega)]
    exact ⟨rfl, (h2 i hi).2⟩
  · rw [if_neg e, List.getElem?_set_ne (by omega), List.getElem?_set_ne (by omega)]
    exact h2 i hi
theorem Own2.setB {w : World} {base : Nat} {T : TypeId} {n : Nat} {A B : Nat → Value} {g cap j : Nat} (h : Own2 w base T (.slice (some ⟨g, 0, none⟩) n cap) n A B) (hj : j < n) (u : Value) :
    Own2 (w.setCell ⟨g, j * 2 + 1, none⟩ u) base T (.slice (some ⟨g, 0, none⟩) n cap) n A (fun i => if i = j then u else B i) := by
  obtain ⟨ys, h1, h2⟩ := h
  have hl := h1.1
  refine ⟨_, (h1.stored (j * 2 + 1) u).1, fun i hi => ?_⟩
  dsimp only
  by_cases e : i = j
  · subst e
    rw [if_pos rfl, List.getElem?_set_ne (by omega), List.getElem?_set_self (by omega)]
    exact ⟨(h2 i hi).1, rfl⟩
  · rw [if_neg e, List.getElem?_set_ne (by omega), List.getElem?_set_ne (by omega)]
    exact h2 i hi
end Go.Proofs.YtinfdhbnljnifaaGreatDoor
