import Derived.Test.YtinfdhbnljnifaaGreatDoorSzCls
import Derived.Maps.AppendAt
import Derived.Test.YtinfdhbnljnifaaGreatDoorShowable
import Derived.Deep.RegionHeld3
import Derived.Test.YtinfdhbnljnifaaGreatDoorSizeB
namespace Go.Proofs.YtinfdhbnljnifaaGreatDoor
open Go.RowKit
theorem za8 {w w' : World} {base : Nat} {e : TypeId} {size : Nat} {v : Value} {n : Nat} {xs : List Value} (ho : w.ownsRow base e size v n xs) (h : ∀ g, v.ownBlock = some g → w'.heap[g]? = w.heap[g]?) : w'.ownsRow base e size v n xs := by
 refine ⟨ho.1, ?_⟩
 rcases ho.2 with h1 | ⟨g, cap, cur, rfl, h2, h3, h4⟩
 ·exact .inl h1
 ·exact .inr ⟨g, cap, cur, rfl, h2, (h g rfl).trans h3, h4⟩
theorem zeh {w : World} {base : Nat} {e : TypeId} {size : Nat} {v : Value} {n : Nat} {xs : List Value} (ho : w.ownsRow base e size v n xs) {g : Nat} (hg : v.ownBlock = some g) : ∃ cur, w.heap[g]? = some (.cells cur e (0, 0)) := by
 rcases ho.2 with ⟨rfl, _⟩ | ⟨g', cap, cur, rfl, h2, h3, h4⟩
 ·simp [Value.ownBlock] at hg
 ·simp [Value.ownBlock] at hg
  subst hg
  exact ⟨cur, h3⟩
theorem zaw {w : World} {b1 b2 : Nat} {e1 e2 : TypeId} {s1 s2 : Nat} {v1 v2 : Value} {n1 n2 : Nat} {x1 x2 : List Value} (h1 : w.ownsRow b1 e1 s1 v1 n1 x1) (h2 : w.ownsRow b2 e2 s2 v2 n2 x2) (hne : e1 ≠ e2) {g : Nat} (hg : v1.ownBlock = some g) : v2.ownBlock ≠ some g := by
 intro hg2
 obtain ⟨c1, k1⟩ := zeh h1 hg
 obtain ⟨c2, k2⟩ := zeh h2 hg2
 rw [k1] at k2
 simp at k2
 exact hne k2.2
theorem ziI (rs : List Value) (m : Nat) (r : Value) (j : Nat) (hm : m < rs.length) : rV (rs.set m r) j = if j = m then r else rV rs j := by
 unfold rV
 by_cases h : j = m
 ·subst h; simp [hm]
 ·rw [if_neg h, List.getElem?_set_ne (by omega)]
theorem zfn (cs : List (List Int × Int)) (m : Nat) (c : List Int × Int) (j : Nat) (hm : m < cs.length) : cR (cs.set m c) j = if j = m then c.1 else cR cs j := by
 unfold cR
 by_cases h : j = m
 ·subst h; simp [hm]
 ·rw [if_neg h, List.getElem?_set_ne (by omega)]
theorem zgW (cs : List (List Int × Int)) (m : Nat) (c : List Int × Int) (j : Nat) (hm : m < cs.length) : cW (cs.set m c) j = if j = m then c.2 else cW cs j := by
 unfold cW
 by_cases h : j = m
 ·subst h; simp [hm]
 ·rw [if_neg h, List.getElem?_set_ne (by omega)]
theorem zef (cs : List (List Int × Int)) (c : List Int × Int) (j : Nat) : cR (cs ++ [c]) j = if j = cs.length then c.1 else cR cs j := by
 unfold cR
 by_cases h : j = cs.length
 ·subst h; simp
 ·rw [if_neg h]
  by_cases h2 : j < cs.length
  ·rw [List.getElem?_append_left h2]
  ·rw [List.getElem?_eq_none (by simp; omega), List.getElem?_eq_none (by omega)]
theorem zem (cs : List (List Int × Int)) (c : List Int × Int) (j : Nat) : cW (cs ++ [c]) j = if j = cs.length then c.2 else cW cs j := by
 unfold cW
 by_cases h : j = cs.length
 ·subst h; simp
 ·rw [if_neg h]
  by_cases h2 : j < cs.length
  ·rw [List.getElem?_append_left h2]
  ·rw [List.getElem?_eq_none (by simp; omega), List.getElem?_eq_none (by omega)]
theorem zal.push {W W' : World} {base : Nat} {v v' r : Value} {rs : List Value} {cs : List (List Int × Int)} {xs : List Int} {d : Int} {ys : List Value}
  (h : zal W base v rs cs) (hy : W.ownsRow base 205 2 v cs.length ys) (hyy : ∀ j, j < cs.length → ys[j * 2]? = some (rV rs j) ∧ ys[j * 2 + 1]? = some (.int .i64 (cW cs j)))
  (hr : W.ownsRow base 21 1 r xs.length (xs.map (Value.int .i32))) (hfr : ∀ j g, j < cs.length → (rV rs j).ownBlock = some g → r.ownBlock ≠ some g)
  (ho : W'.ownsRow base 205 2 v' (cs.length + 1) (ys ++ [r, .int .i64 d])) (hg : W.grownBy W' v.ownBlock) : zal W' base v' (rs ++ [r]) (cs ++ [(xs, d)]) := by
 obtain ⟨h0, _, h3, h4⟩ := h
 have hyl := hy.1
 have keep : ∀ (u : Value) (m : Nat) (zs : List Value), W.ownsRow base 21 1 u m zs → W'.ownsRow base 21 1 u m zs := fun u m zs hu =>
  za8 hu (fun g hgu => hg.block g (hu.lt g hgu).2 (fun e => zaw hu hy (by decide) hgu e.symm))
 refine ⟨by simp [h0], ⟨_, by simpa using ho, fun j hj => ?_⟩, fun j hj => ?_, fun i j g hij hj hk => ?_⟩
 ·simp at hj
  by_cases e : j = cs.length
  ·subst e
   rw [← h0, zed, h0, zem, if_pos rfl]
   constructor
   ·rw [List.getElem?_append_right (by omega)]; simp [hyl]
   ·rw [List.getElem?_append_right (by omega)]; simp [hyl]
  ·rw [zcV rs r j (by omega), zem, if_neg e, List.getElem?_append_left (by omega), List.getElem?_append_left (by omega)]
   exact hyy j (by omega)
 ·simp at hj
  rw [zef]
  by_cases e : j = cs.length
  ·subst e
   rw [← h0, zed, h0, if_pos rfl]
   exact keep _ _ _ hr
  ·rw [zcV rs r j (by omega), if_neg e]
   exact keep _ _ _ (h3 j (by omega))
 ·simp at hj
  rw [zcV rs r i (by omega)] at hk
  by_cases e : j = cs.length
  ·subst e
   rw [← h0, zed]
   exact hfr i g (by omega) hk
  ·rw [zcV rs r j (by omega)]
   exact h4 i j g hij (by omega) hk
theorem zal.grow {W W1 : World} {base g m cap H : Nat} {r' : Value} {rs : List Value} {cs : List (List Int × Int)} {x : Int}
  (h : zal W base (.slice (some ⟨g, 0, none⟩) cs.length cap) rs cs) (hm : m < cs.length) (hlt : ∀ i, i < cs.length → ∀ k, (rV rs i).ownBlock = some k → k < H)
  (ho : W1.ownsRow base 21 1 r' ((cR cs m).length + 1) ((cR cs m ++ [x]).map (Value.int .i32))) (hg : W.grownBy W1 (rV rs m).ownBlock) (hat : r'.ownBlock = (rV rs m).ownBlock ∨ r'.ownBlock = some H) :
  zal (W1.setCell ⟨g, m * 2, none⟩ r') base (.slice (some ⟨g, 0, none⟩) cs.length cap) (rs.set m r') (cs.set m (cR cs m ++ [x], cW cs m)) := by
 obtain ⟨h0, ⟨ys, hy, hyy⟩, h3, h4⟩ := h
 have hyl := hy.1
 have hy1 : W1.ownsRow base 205 2 (.slice (some ⟨g, 0, none⟩) cs.length cap) cs.length ys :=
  za8 hy (fun k hk => hg.block k (hy.lt k hk).2 (fun e => zaw hy (h3 m hm) (by decide) hk e.symm))
 have s1 := (hy1.stored (m * 2) r').1
 have ng : ∀ (u : Value) (n : Nat) (zs : List Value), W1.ownsRow base 21 1 u n zs → u.ownBlock ≠ some g := fun u n zs hu e => zaw hu hy1 (by decide) e rfl
 have keep : ∀ (u : Value) (n : Nat) (zs : List Value), W1.ownsRow base 21 1 u n zs → (W1.setCell ⟨g, m * 2, none⟩ r').ownsRow base 21 1 u n zs := fun u n zs hu =>
  zbW hu (ng u n zs hu) _
 have old : ∀ j, j < cs.length → j ≠ m → W1.ownsRow base 21 1 (rV rs j) (cR cs j).length ((cR cs j).map (Value.int .i32)) := fun j hj hne =>
  za8 (h3 j hj) (fun k hk => hg.block k ((h3 j hj).lt k hk).2 (fun e => by
   rcases Nat.lt_or_gt_of_ne hne with h5 | h5
   ·exact h4 j m k h5 hm hk e.symm
   ·exact h4 m j k h5 hj e.symm hk))
 have new : ∀ j, j < cs.length → j ≠ m → ∀ k, (rV rs j).ownBlock = some k → r'.ownBlock ≠ some k := fun j hj hne k hk e => by
  rcases hat with h5 | h5
  ·rw [h5] at e
   rcases Nat.lt_or_gt_of_ne hne with h6 | h6
   ·exact h4 j m k h6 hm hk e
   ·exact h4 m j k h6 hj e hk
  ·rw [h5] at e
   have := hlt j hj k hk
   simp at e
   omega
 refine ⟨by simp [h0], ⟨ys.set (m * 2) r', by simpa using s1, fun j hj => ?_⟩, fun j hj => ?_, fun i j k hij hj hk => ?_⟩
 ·simp at hj
  rw [ziI rs m r' j (by omega), zgW cs m _ j hm]
  by_cases e : j = m
  ·subst e
   rw [if_pos rfl, if_pos rfl]
   exact ⟨List.getElem?_set_self (by omega), by rw [List.getElem?_set_ne (by omega)]; exact (hyy j hj).2⟩
  ·rw [if_neg e, if_neg e, List.getElem?_set_ne (by omega), List.getElem?_set_ne (by omega)]
   exact hyy j hj
 ·simp at hj
  rw [ziI rs m r' j (by omega), zfn cs m _ j hm]
  by_cases e : j = m
  ·subst e
   rw [if_pos rfl, if_pos rfl]
   exact keep _ _ _ (by simpa using ho)
  ·rw [if_neg e, if_neg e]
   exact keep _ _ _ (old j hj e)
 ·simp at hj
  rw [ziI rs m r' i (by omega)] at hk
  rw [ziI rs m r' j (by omega)]
  by_cases e : i = m
  ·subst e
   rw [if_pos rfl] at hk
   rw [if_neg (by omega)]
   intro e2
   exact new j hj (by omega) k e2 hk
  ·rw [if_neg e] at hk
   by_cases e2 : j = m
   ·subst e2
    rw [if_pos rfl]
    exact new i (by omega) (by omega) k hk
   ·rw [if_neg e2]
    exact h4 i j k hij hj hk
theorem zbs {w : World} (zs : List Value) (t : TypeId) : ∀ j u, zs[j]? = some u → (w.alloc (.cells zs.toArray t)).cell? ((⟨w.heap.size, 0, none⟩ : Addr).add j) = some u := by
 intro j u h
 rw [Addr.add_lit, Nat.zero_add, World.cell?_alloc_at _ _ _ _ rfl]
 simpa using h
theorem zko {a b : Value} (ha : a.oneCell' = true) (hb : b.oneCell' = true) : ∀ u ∈ [a, b], u.oneCell' = true := by
 intro u hu
 simp at hu
 rcases hu with rfl | rfl <;> assumption
theorem zei {w : World} (k : IntKind) (zs : List Int) (t base n : Nat) (hn : n = zs.length) (hb : base ≤ w.heap.size) (hm : zs.length ≤ maxLen) : (w.alloc (.cells (zs.map (Value.int k)).toArray t)).ownsRow base t 1 (.slice (some ⟨w.heap.size, 0, none⟩) n n) zs.length (zs.map (Value.int k)) := by
 subst hn
 simpa using World.ownsRow_lit (w := w) (base := base) (e := t) (size := 1) (zs.map (Value.int k)).toArray zs.length hb hm (by simp)
structure Fr (S : Nat → Prop) (w w' : World) : Prop where
 os : w'.os = w.os
 tape : w'.tape = w.tape
 output : w'.output = w.output
 size : w.heap.size ≤ w'.heap.size
 block : ∀ k, k < w.heap.size → ¬ S k → w'.heap[k]? = w.heap[k]?
theorem Fr.refl (S : Nat → Prop) (w : World) : Fr S w w := ⟨rfl, rfl, rfl, Nat.le_refl _, fun _ _ _ => rfl⟩
theorem Fr.grown {S : Nat → Prop} {w W w3 : World} {row : Option Nat} (h : Fr S w W) (hg : W.grownBy w3 row) (hrow : ∀ k, row = some k → S k) : Fr S w w3 :=
 ⟨hg.os.trans h.os, hg.tape.trans h.tape, hg.output.trans h.output, Nat.le_trans h.size hg.size, fun i hi hn => (hg.block i (Nat.lt_of_lt_of_le hi h.size) (fun e => hn (hrow i e.symm))).trans (h.block i hi hn)⟩
theorem Fr.setCell {S : Nat → Prop} {w W : World} (h : Fr S w W) {a : Addr} (ha : S a.block) (u : Value) : Fr S w (W.setCell a u) :=
 h.grown (row := some a.block) ⟨rfl, rfl, rfl, by simp, fun k _ hk => Below.heap_setCell _ _ _ _ (fun e => hk (by rw [e]))⟩ (fun k hk => by simp at hk; subst hk; exact ha)
theorem Fr.ext {S : Nat → Prop} {w w' : World} (h : Fr S w w') {w0 : World} (h0 : Ext w0 w) (hS : ∀ k, S k → w0.heap.size ≤ k) : Ext w0 w' :=
 ⟨h.os.trans h0.os, h.tape.trans h0.tape, h.output.trans h0.output, Nat.le_trans h0.size h.size, fun i hi hn => (h.block i (Nat.lt_of_lt_of_le hi h0.size) (fun e => by have := hS i e; omega)).trans (h0.block i hi hn)⟩
theorem Fr.owns {S : Nat → Prop} {w w' : World} (h : Fr S w w') {base : Nat} {e : TypeId} {size : Nat} {v : Value} {n : Nat} {xs : List Value} (ho : w.ownsRow base e size v n xs) (hS : ∀ g, v.ownBlock = some g → ¬ S g) : w'.ownsRow base e size v n xs :=
 za8 ho (fun g hg => h.block g (ho.lt g hg).2 (hS g hg))
theorem Fr.of_ext {S : Nat → Prop} {a b : World} (h : Ext a b) : Fr S a b := ⟨h.os, h.tape, h.output, h.size, fun _ hi _ => h.heap hi⟩
theorem Fr.mono {S S' : Nat → Prop} {a b : World} (h : Fr S a b) (hs : ∀ k, S k → S' k) : Fr S' a b := ⟨h.os, h.tape, h.output, h.size, fun i hi hn => h.block i hi (fun e => hn (hs i e))⟩
def zdl (v : Value) (rs : List Value) (n : Nat) (g : Nat) : Prop := v.ownBlock = some g ∨ ∃ j, j < n ∧ (rV rs j).ownBlock = some g
theorem zal.fr {S : Nat → Prop} {w w' : World} {base : Nat} {v : Value} {rs : List Value} {cs : List (List Int × Int)} (h : zal w base v rs cs) (hf : Fr S w w') (hS : ∀ g, zdl v rs cs.length g → ¬ S g) : zal w' base v rs cs := by
 obtain ⟨h0, ⟨ys, h1, h2⟩, h3, h4⟩ := h
 exact ⟨h0, ⟨ys, hf.owns h1 (fun g hg => hS g (.inl hg)), h2⟩, fun j hj => hf.owns (h3 j hj) (fun g hg => hS g (.inr ⟨j, hj, hg⟩)), h4⟩
theorem zal.foot {w : World} {base : Nat} {v : Value} {rs : List Value} {cs : List (List Int × Int)} (h : zal w base v rs cs) {g : Nat} (hg : zdl v rs cs.length g) : base ≤ g ∧ g < w.heap.size := by
 obtain ⟨h0, ⟨ys, h1, h2⟩, h3, h4⟩ := h
 rcases hg with hg | ⟨j, hj, hg⟩
 ·exact h1.lt g hg
 ·exact (h3 j hj).lt g hg
theorem zal.mark {W W1 : World} {base g j cap : Nat} {rs : List Value} {cs : List (List Int × Int)} {zs : List Int} {d : Int}
  (h : zal W base (.slice (some ⟨g, 0, none⟩) cs.length cap) rs cs) (hj : j < cs.length) (hz : zs.length = (cR cs j).length)
  (ho : W1.ownsRow base 21 1 (rV rs j) (cR cs j).length (zs.map (Value.int .i32))) (hg : W.grownBy W1 (rV rs j).ownBlock) :
  zal (W1.setCell ⟨g, j * 2 + 1, none⟩ (.int .i64 d)) base (.slice (some ⟨g, 0, none⟩) cs.length cap) rs (cs.set j (zs, d)) := by
 obtain ⟨h0, ⟨ys, hy, hyy⟩, h3, h4⟩ := h
 have hyl := hy.1
 have hy1 : W1.ownsRow base 205 2 (.slice (some ⟨g, 0, none⟩) cs.length cap) cs.length ys :=
  za8 hy (fun k hk => hg.block k (hy.lt k hk).2 (fun e => zaw hy (h3 j hj) (by decide) hk e.symm))
 have s1 := (hy1.stored (j * 2 + 1) (.int .i64 d)).1
 have ng : ∀ (u : Value) (n : Nat) (zs : List Value), W1.ownsRow base 21 1 u n zs → u.ownBlock ≠ some g := fun u n zs hu e => zaw hu hy1 (by decide) e rfl
 have keep : ∀ (u : Value) (n : Nat) (zs : List Value), W1.ownsRow base 21 1 u n zs → (W1.setCell ⟨g, j * 2 + 1, none⟩ (.int .i64 d)).ownsRow base 21 1 u n zs := fun u n zs hu =>
  zbW hu (ng u n zs hu) _
 have old : ∀ i, i < cs.length → i ≠ j → W1.ownsRow base 21 1 (rV rs i) (cR cs i).length ((cR cs i).map (Value.int .i32)) := fun i hi hne =>
  za8 (h3 i hi) (fun k hk => hg.block k ((h3 i hi).lt k hk).2 (fun e => by
   rcases Nat.lt_or_gt_of_ne hne with h5 | h5
   ·exact h4 i j k h5 hj hk e.symm
   ·exact h4 j i k h5 hi e.symm hk))
 refine ⟨by simp [h0], ⟨ys.set (j * 2 + 1) (.int .i64 d), by simpa using s1, fun i hi => ?_⟩, fun i hi => ?_, fun i j' k hij hj' hk => h4 i j' k hij (by simpa using hj') hk⟩
 ·simp at hi
  rw [zgW cs j _ i hj]
  by_cases e : i = j
  ·subst e
   rw [if_pos rfl]
   exact ⟨by rw [List.getElem?_set_ne (by omega)]; exact (hyy i hi).1, List.getElem?_set_self (by omega)⟩
  ·rw [if_neg e, List.getElem?_set_ne (by omega), List.getElem?_set_ne (by omega)]
   exact hyy i hi
 ·simp at hi
  rw [zfn cs j _ i hj]
  by_cases e : i = j
  ·subst e
   rw [if_pos rfl]
   exact keep _ _ _ (by simpa [hz] using ho)
  ·rw [if_neg e]
   exact keep _ _ _ (old i hi e)
def kkC (k : Int) (cs : List (List Int × Int)) : Nat → Int
 | 0 => k
 | j + 1 => kkC k cs j + ((cR cs j).length : Int) + 1
def Small (k : Int) (cs : List (List Int × Int)) : Prop := ∀ j, j ≤ cs.length → 0 ≤ kkC k cs j ∧ kkC k cs j ≤ 4398046511104
def zam (w : World) (v : Value) (n : Nat) (A : Nat → Value) : Prop :=
 ∃ ao cap, v = .slice ao n cap ∧ n ≤ cap ∧ (0 < n → ∃ b off, ao = some ⟨b, off, none⟩ ∧ ∀ j, j < n → w.cell? ⟨b, off + j, none⟩ = some (A j))
def zag (w : World) (v : Value) (n : Nat) (A B : Nat → Value) : Prop :=
 ∃ ao cap, v = .slice ao n cap ∧ n ≤ cap ∧ (0 < n → ∃ b off, ao = some ⟨b, off, none⟩ ∧ ∀ j, j < n → w.cell? ⟨b, off + j * 2, none⟩ = some (A j) ∧ w.cell? ⟨b, off + j * 2 + 1, none⟩ = some (B j))
theorem zam.ext {w w' : World} {v : Value} {n : Nat} {A : Nat → Value} (h : zam w v n A) (he : Ext w w') : zam w' v n A := by
 obtain ⟨ao, cap, e, hc, hx⟩ := h
 exact ⟨ao, cap, e, hc, fun hp => by obtain ⟨b, off, e2, hcell⟩ := hx hp; exact ⟨b, off, e2, fun j hj => he.cell (hcell j hj)⟩⟩
theorem zag.ext {w w' : World} {v : Value} {n : Nat} {A B : Nat → Value} (h : zag w v n A B) (he : Ext w w') : zag w' v n A B := by
 obtain ⟨ao, cap, e, hc, hx⟩ := h
 exact ⟨ao, cap, e, hc, fun hp => by obtain ⟨b, off, e2, hcell⟩ := hx hp; exact ⟨b, off, e2, fun j hj => ⟨he.cell (hcell j hj).1, he.cell (hcell j hj).2⟩⟩⟩
def za4 (w : World) (base : Nat) (T : TypeId) (v : Value) (n : Nat) (A : Nat → Value) : Prop := ∃ ys, w.ownsRow base T 1 v n ys ∧ ∀ j, j < n → ys[j]? = some (A j)
def zaG (w : World) (base : Nat) (T : TypeId) (v : Value) (n : Nat) (A B : Nat → Value) : Prop := ∃ ys, w.ownsRow base T 2 v n ys ∧ ∀ j, j < n → ys[j * 2]? = some (A j) ∧ ys[j * 2 + 1]? = some (B j)
section
variable {w w' : World} {base : Nat} {T : TypeId} {v : Value} {n : Nat} {A B : Nat → Value}
theorem za4.ext (h : za4 w base T v n A) (he : Ext w w') : za4 w' base T v n A := by obtain ⟨ys, h1, h2⟩ := h; exact ⟨ys, he.owns h1, h2⟩
theorem zaG.ext (h : zaG w base T v n A B) (he : Ext w w') : zaG w' base T v n A B := by obtain ⟨ys, h1, h2⟩ := h; exact ⟨ys, he.owns h1, h2⟩
theorem za4.lt (h : za4 w base T v n A) : ∀ g, v.ownBlock = some g → base ≤ g ∧ g < w.heap.size := by obtain ⟨ys, h1, _⟩ := h; exact h1.lt
theorem zaG.lt (h : zaG w base T v n A B) : ∀ g, v.ownBlock = some g → base ≤ g ∧ g < w.heap.size := by obtain ⟨ys, h1, _⟩ := h; exact h1.lt
theorem za4.fr {S : Nat → Prop} (h : za4 w base T v n A) (hf : Fr S w w') (hS : ∀ g, v.ownBlock = some g → ¬ S g) : za4 w' base T v n A := by obtain ⟨ys, h1, h2⟩ := h; exact ⟨ys, hf.owns h1 hS, h2⟩
theorem zaG.fr {S : Nat → Prop} (h : zaG w base T v n A B) (hf : Fr S w w') (hS : ∀ g, v.ownBlock = some g → ¬ S g) : zaG w' base T v n A B := by obtain ⟨ys, h1, h2⟩ := h; exact ⟨ys, hf.owns h1 hS, h2⟩
theorem za4.mono {base' : Nat} (h : za4 w base T v n A) (hb : base' ≤ base) : za4 w base' T v n A := by obtain ⟨ys, h1, h2⟩ := h; exact ⟨ys, zah h1 hb, h2⟩
theorem zaG.mono {base' : Nat} (h : zaG w base T v n A B) (hb : base' ≤ base) : zaG w base' T v n A B := by obtain ⟨ys, h1, h2⟩ := h; exact ⟨ys, zah h1 hb, h2⟩
theorem za4.congr {A' : Nat → Value} (h : za4 w base T v n A) (e : ∀ j, j < n → A j = A' j) : za4 w base T v n A' := by obtain ⟨ys, h1, h2⟩ := h; exact ⟨ys, h1, fun j hj => by rw [← e j hj]; exact h2 j hj⟩
theorem zaG.congr {A' B' : Nat → Value} (h : zaG w base T v n A B) (e : ∀ j, j < n → A j = A' j ∧ B j = B' j) : zaG w base T v n A' B' := by obtain ⟨ys, h1, h2⟩ := h; exact ⟨ys, h1, fun j hj => by rw [← (e j hj).1, ← (e j hj).2]; exact h2 j hj⟩
theorem za4.reads (h : za4 w base T v n A) : zam w v n A := by
 obtain ⟨ys, h1, h2⟩ := h
 rcases h1.2 with ⟨rfl, h0⟩ | ⟨g, cap, cur, rfl, hb, hg, hn, hm, hs, ht⟩
 ·exact ⟨none, 0, by rw [h0], by omega, fun hp => by omega⟩
 ·refine ⟨_, cap, rfl, hn, fun _ => ⟨g, 0, rfl, fun j hj => ?_⟩⟩
  rw [Nat.zero_add, h1.cellAt _ (by omega)]
  exact h2 j hj
theorem zaG.reads (h : zaG w base T v n A B) : zag w v n A B := by
 obtain ⟨ys, h1, h2⟩ := h
 rcases h1.2 with ⟨rfl, h0⟩ | ⟨g, cap, cur, rfl, hb, hg, hn, hm, hs, ht⟩
 ·exact ⟨none, 0, by rw [h0], by omega, fun hp => by omega⟩
 ·refine ⟨_, cap, rfl, hn, fun _ => ⟨g, 0, rfl, fun j hj => ?_⟩⟩
  rw [Nat.zero_add, h1.cellAt _ (by omega), h1.cellAt _ (by omega)]
  exact h2 j hj
theorem za4.form (h : za4 w base T v n A) : (v = .slice none 0 0 ∧ n = 0) ∨ ∃ g cap, v = .slice (some ⟨g, 0, none⟩) n cap := by
 obtain ⟨ys, h1, h2⟩ := h
 rcases h1.2 with h0 | ⟨g, cap, cur, rfl, _⟩
 ·exact .inl h0
 ·exact .inr ⟨g, cap, rfl⟩
theorem zaG.form (h : zaG w base T v n A B) : (v = .slice none 0 0 ∧ n = 0) ∨ ∃ g cap, v = .slice (some ⟨g, 0, none⟩) n cap := by
 obtain ⟨ys, h1, h2⟩ := h
 rcases h1.2 with h0 | ⟨g, cap, cur, rfl, _⟩
 ·exact .inl h0
 ·exact .inr ⟨g, cap, rfl⟩
theorem za4.cell {g cap j : Nat} (h : za4 w base T (.slice (some ⟨g, 0, none⟩) n cap) n A) (hj : j < n) : w.cell? ⟨g, j, none⟩ = some (A j) ∧ w.frozen? ⟨g, j, none⟩ = false := by
 obtain ⟨ys, h1, h2⟩ := h
 exact ⟨by rw [h1.cellAt _ (by omega)]; exact h2 j hj, h1.frozenAt j⟩
theorem zaG.cell {g cap j : Nat} (h : zaG w base T (.slice (some ⟨g, 0, none⟩) n cap) n A B) (hj : j < n) : (w.cell? ⟨g, j * 2, none⟩ = some (A j) ∧ w.frozen? ⟨g, j * 2, none⟩ = false) ∧ w.cell? ⟨g, j * 2 + 1, none⟩ = some (B j) ∧ w.frozen? ⟨g, j * 2 + 1, none⟩ = false := by
 obtain ⟨ys, h1, h2⟩ := h
 exact ⟨⟨by rw [h1.cellAt _ (by omega)]; exact (h2 j hj).1, h1.frozenAt _⟩, by rw [h1.cellAt _ (by omega)]; exact (h2 j hj).2, h1.frozenAt _⟩
theorem za4.set {g cap j : Nat} (h : za4 w base T (.slice (some ⟨g, 0, none⟩) n cap) n A) (hj : j < n) (u : Value) : za4 (w.setCell ⟨g, j, none⟩ u) base T (.slice (some ⟨g, 0, none⟩) n cap) n (fun i => if i = j then u else A i) := by
 obtain ⟨ys, h1, h2⟩ := h
 have hl := h1.1
 refine ⟨_, (h1.stored j u).1, fun i hi => ?_⟩
 dsimp only
 by_cases e : i = j
 ·subst e; rw [if_pos rfl, List.getElem?_set_self (by omega)]
 ·rw [if_neg e, List.getElem?_set_ne (by omega)]; exact h2 i hi
theorem zaG.set {g cap j : Nat} (h : zaG w base T (.slice (some ⟨g, 0, none⟩) n cap) n A B) (hj : j < n) (u u' : Value) :
  zaG ((w.setCell ⟨g, j * 2, none⟩ u).setCell ⟨g, j * 2 + 1, none⟩ u') base T (.slice (some ⟨g, 0, none⟩) n cap) n (fun i => if i = j then u else A i) (fun i => if i = j then u' else B i) := by
 obtain ⟨ys, h1, h2⟩ := h
 have hl := h1.1
 refine ⟨_, ((h1.stored (j * 2) u).1.stored (j * 2 + 1) u').1, fun i hi => ?_⟩
 dsimp only
 by_cases e : i = j
 ·subst e
  rw [if_pos rfl, if_pos rfl, List.getElem?_set_ne (by omega), List.getElem?_set_self (by omega), List.getElem?_set_self (by simp; omega)]
  exact ⟨rfl, rfl⟩
 ·rw [if_neg e, if_neg e, List.getElem?_set_ne (by omega), List.getElem?_set_ne (by omega), List.getElem?_set_ne (by omega), List.getElem?_set_ne (by omega)]
  exact h2 i hi
end
theorem zmU {w' : World} {base : Nat} {T : TypeId} {v' : Value} {n : Nat} {A : Nat → Value} {ys : List Value} {u : Value} (hl : ys.length = n) (h2 : ∀ j, j < n → ys[j]? = some (A j)) (ho : w'.ownsRow base T 1 v' (n + 1) (ys ++ [u])) : za4 w' base T v' (n + 1) (fun j => if j = n then u else A j) := by
 refine ⟨_, ho, fun j hj => ?_⟩
 dsimp only
 by_cases e : j = n
 ·subst e; rw [if_pos rfl, List.getElem?_append_right (by omega)]; simp [hl]
 ·rw [if_neg e, List.getElem?_append_left (by omega)]; exact h2 j (by omega)
def dgs : Nat → Nat → List Int
 | 0, _ => []
 | f + 1, k => if k = 0 then [] else dgs f (k / 10) ++ [48 + ((k % 10 : Nat) : Int)]
theorem zjV : ∀ (f g k : Nat), k ≤ f → k ≤ g → dgs f k = dgs g k
  | 0, 0, _, _, _ => rfl
  | 0, g + 1, k, h, _ => by have : k = 0 := by omega
                            subst this; simp [dgs]
  | f + 1, 0, k, _, h => by have : k = 0 := by omega
                            subst this; simp [dgs]
  | f + 1, g + 1, k, h1, h2 => by
    simp only [dgs]
    split
    · rfl
    · rw [zjV f g (k / 10) (by omega) (by omega)]
def dg (k : Nat) : List Int := dgs k k
theorem ze3 (k : Nat) (h : 0 < k) : dg k = dg (k / 10) ++ [48 + ((k % 10 : Nat) : Int)] := by
 unfold dg
 obtain ⟨m, rfl⟩ : ∃ m, k = m + 1 := ⟨k - 1, by omega⟩
 rw [dgs, if_neg (by omega), zjV m ((m + 1) / 10) _ (by omega) (Nat.le_refl _)]
theorem zfk (xs ys : List Int) : zo xs ++ zo ys = zo (xs ++ ys) := by
 apply WideShapes.bytes_inj
 rw [ByteArray.data_append]
 simp [za9]
def noS : ByteArray := { data := #[] }
theorem zfa : (Tryz.prog.info? 9).map (fun i => (i.zero, i.size, i.bytes)) = some (some (.string noS), 1, 16) := by kernel_rfl
def zfo (w : World) (v : Value) (R : Nat) (C : Nat → Nat) (A B : Nat → Nat → Value) : Prop :=
 ∃ rv : Nat → Value, zam w v R rv ∧ ∀ i, i < R → zag w (rv i) (C i) (A i) (B i)
theorem zfo.ext {w w' : World} {v : Value} {R : Nat} {C : Nat → Nat} {A B : Nat → Nat → Value} (h : zfo w v R C A B) (he : Ext w w') : zfo w' v R C A B := by
 obtain ⟨rv, h1, h2⟩ := h
 exact ⟨rv, h1.ext he, fun i hi => (h2 i hi).ext he⟩
def zax (w : World) (base : Nat) (v : Value) (rv : Nat → Value) (R : Nat) (C : Nat → Nat) (A B : Nat → Nat → Value) : Prop :=
 za4 w base 81 v R rv ∧ (∀ i, i < R → zaG w base 83 (rv i) (C i) (A i) (B i)) ∧ (∀ i j g, i < j → j < R → (rv i).ownBlock = some g → (rv j).ownBlock ≠ some g)
def zjw (v : Value) (rv : Nat → Value) (R : Nat) (g : Nat) : Prop := v.ownBlock = some g ∨ ∃ i, i < R ∧ (rv i).ownBlock = some g
section
variable {w w' : World} {base : Nat} {v : Value} {rv : Nat → Value} {R : Nat} {C : Nat → Nat} {A B : Nat → Nat → Value}
theorem zax.ext (h : zax w base v rv R C A B) (he : Ext w w') : zax w' base v rv R C A B := ⟨h.1.ext he, fun i hi => (h.2.1 i hi).ext he, h.2.2⟩
theorem zax.reads (h : zax w base v rv R C A B) : zfo w v R C A B := ⟨rv, h.1.reads, fun i hi => (h.2.1 i hi).reads⟩
theorem zax.foot (h : zax w base v rv R C A B) {g : Nat} (hg : zjw v rv R g) : base ≤ g ∧ g < w.heap.size := by
 rcases hg with hg | ⟨i, hi, hg⟩
 ·exact h.1.lt g hg
 ·exact (h.2.1 i hi).lt g hg
theorem zax.fr {S : Nat → Prop} (h : zax w base v rv R C A B) (hf : Fr S w w') (hS : ∀ g, zjw v rv R g → ¬ S g) : zax w' base v rv R C A B :=
 ⟨h.1.fr hf (fun g hg => hS g (.inl hg)), fun i hi => (h.2.1 i hi).fr hf (fun g hg => hS g (.inr ⟨i, hi, hg⟩)), h.2.2⟩
theorem zax.apart (h : zax w base v rv R C A B) {i g : Nat} (hi : i < R) (hg : (rv i).ownBlock = some g) : v.ownBlock ≠ some g := by
 obtain ⟨ys, h1, _⟩ := h.1
 obtain ⟨zs, h2, _⟩ := h.2.1 i hi
 exact zaw h2 h1 (by decide) hg
theorem zax.row {A' B' : Nat → Value} {j : Nat} (h : zax w base v rv R C A B) (hj : j < R) (ho : zaG w' base 83 (rv j) (C j) A' B') (hf : Fr (fun g => (rv j).ownBlock = some g) w w') :
  zax w' base v rv R C (fun i => if i = j then A' else A i) (fun i => if i = j then B' else B i) := by
 refine ⟨h.1.fr hf (fun g hg e => h.apart hj e hg), fun i hi => ?_, h.2.2⟩
 dsimp only
 by_cases e : i = j
 ·subst e; rw [if_pos rfl, if_pos rfl]; exact ho
 ·rw [if_neg e, if_neg e]
  refine (h.2.1 i hi).fr hf (fun g hg e2 => ?_)
  rcases Nat.lt_or_gt_of_ne e with h5 | h5
  ·exact h.2.2 i j g h5 hj hg e2
  ·exact h.2.2 j i g h5 hi e2 hg
theorem zax.congr {A' B' : Nat → Nat → Value} (h : zax w base v rv R C A B) (e : ∀ i, i < R → A i = A' i ∧ B i = B' i) : zax w base v rv R C A' B' :=
 ⟨h.1, fun i hi => by rw [← (e i hi).1, ← (e i hi).2]; exact h.2.1 i hi, h.2.2⟩
end
def gk (k : Int) (C : Nat → Nat) : Nat → Int
 | 0 => k
 | i + 1 => gk k C i + 2 * (C i : Int)
structure SD where
 cols : Int
 rows : Int
 row : Int
 col : Int
 late : Bool
 R : Nat
 C : Nat → Nat
 tx : Nat → Nat → ByteArray
 hf : Nat → Nat → Bool
 hold : List Int
 nb : Nat
 bk : Nat → ByteArray
def zbT (d : SD) (gv hv bv : Value) : Value := .agg #[.int .i64 d.cols, .int .i64 d.rows, gv, .int .i64 d.row, .int .i64 d.col, .bool d.late, hv, bv]
def zbY (w : World) (d : SD) (gv hv bv : Value) : Prop :=
 zfo w gv d.R d.C (fun i j => .string (d.tx i j)) (fun i j => .bool (d.hf i j)) ∧ zx w .u8 hv d.hold ∧ zam w bv d.nb (fun j => .string (d.bk j))
theorem zbY.ext {w w' : World} {d : SD} {gv hv bv : Value} (h : zbY w d gv hv bv) (he : Ext w w') : zbY w' d gv hv bv := ⟨h.1.ext he, h.2.1.ext he, h.2.2.ext he⟩
structure SD.Fits (d : SD) : Prop where
 R : d.R ≤ 1048576
 C : ∀ i, i < d.R → d.C i ≤ 1048576
 hold : d.hold.length ≤ 1048576
 nb : d.nb ≤ 16777216
def zcf (w : World) (base : Nat) (d : SD) (gv : Value) (rv : Nat → Value) (hv bv : Value) : Prop :=
 zax w base gv rv d.R d.C (fun i j => .string (d.tx i j)) (fun i j => .bool (d.hf i j)) ∧ w.ownsRow base 5 1 hv d.hold.length (d.hold.map (Value.int .u8)) ∧ za4 w base 9 bv d.nb (fun j => .string (d.bk j))
theorem zcf.ext {w w' : World} {base : Nat} {d : SD} {gv : Value} {rv : Nat → Value} {hv bv : Value} (h : zcf w base d gv rv hv bv) (he : Ext w w') : zcf w' base d gv rv hv bv := ⟨h.1.ext he, he.owns h.2.1, h.2.2.ext he⟩
theorem zcf.reads {w : World} {base : Nat} {d : SD} {gv : Value} {rv : Nat → Value} {hv bv : Value} (h : zcf w base d gv rv hv bv) : zbY w d gv hv bv := ⟨h.1.reads, zz h.2.1, h.2.2.reads⟩
def zl7 (d : SD) (gv : Value) (rv : Nat → Value) (hv bv : Value) (g : Nat) : Prop := zjw gv rv d.R g ∨ hv.ownBlock = some g ∨ bv.ownBlock = some g
theorem zcf.foot {w : World} {base : Nat} {d : SD} {gv : Value} {rv : Nat → Value} {hv bv : Value} (h : zcf w base d gv rv hv bv) {g : Nat} (hg : zl7 d gv rv hv bv g) : base ≤ g ∧ g < w.heap.size := by
 rcases hg with hg | hg | hg
 ·exact h.1.foot hg
 ·exact h.2.1.lt g hg
 ·exact h.2.2.lt g hg
theorem zcf.fr {S : Nat → Prop} {w w' : World} {base : Nat} {d : SD} {gv : Value} {rv : Nat → Value} {hv bv : Value} (h : zcf w base d gv rv hv bv) (hf : Fr S w w') (hS : ∀ g, zl7 d gv rv hv bv g → ¬ S g) : zcf w' base d gv rv hv bv :=
 ⟨h.1.fr hf (fun g hg => hS g (.inl hg)), hf.owns h.2.1 (fun g hg => hS g (.inr (.inl hg))), h.2.2.fr hf (fun g hg => hS g (.inr (.inr hg)))⟩
theorem Fr.trans {S : Nat → Prop} {a b c : World} (h : Fr S a b) (k : Fr S b c) : Fr S a c :=
 ⟨k.os.trans h.os, k.tape.trans h.tape, k.output.trans h.output, Nat.le_trans h.size k.size, fun i hi hn => (k.block i (Nat.lt_of_lt_of_le hi h.size) hn).trans (h.block i hi hn)⟩
abbrev noT : ByteArray := { data := #[] }
theorem zgV : (Tryz.prog.info? 201).map (fun i => (i.zero, i.size, i.bytes)) = some (some (.agg #[.string noT, .string noT]), 2, 32) := by kernel_rfl
def baL (s : ByteArray) : List Int := s.data.toList.map fun b => ((b.toNat : Nat) : Int)
theorem zat (s : ByteArray) : zo (baL s) = s := by
 apply WideShapes.bytes_inj
 rw [za9, baL, List.map_map]
 conv => rhs; rw [← List.map_id s.data.toList]
 apply List.map_congr_left
 intro b _
 simp
theorem zw (s : ByteArray) : (baL s).length = s.size := by simp [baL]
theorem zf (s : ByteArray) : zv (baL s) := by
 intro n hn
 obtain ⟨b, _, rfl⟩ := List.mem_map.1 hn
 have := b.toNat_lt
 omega
theorem zv.app {xs ys : List Int} (hx : zv xs) (hy : zv ys) : zv (xs ++ ys) := by
 intro n hn
 rcases List.mem_append.1 hn with h | h
 ·exact hx n h
 ·exact hy n h
theorem zdp {xs : List Int} (h : zv xs) : baL (zo xs) = xs := zgK (zf _) h (zat _)
def za3 (cs : List (List Int × Int)) (x : Int) : List (List Int × Int) :=
 if 0 < wid x then cs ++ [([x], wid x)]
 else if cs.length = 0 then [([9676, x], 1)]
 else cs.set (cs.length - 1) (cR cs (cs.length - 1) ++ [x], cW cs (cs.length - 1))
def clF (xs : List Int) : Nat → List (List Int × Int)
 | 0 => []
 | k + 1 => za3 (clF xs k) (zaa (at0 xs k))
def zaB (xs : List Int) : List (List Int × Int) := clF xs xs.length
theorem zeb (xs : List Int) : ∀ k, (clF xs k).length ≤ k
 | 0 => by simp [clF]
 | k + 1 => by
  have := zeb xs k
  rw [clF, za3]
  repeat' split
  all_goals simp
  all_goals omega
theorem zfP (xs : List Int) : ∀ k j, (cR (clF xs k) j).length ≤ k + 1
 | 0, j => by simp [clF, cR]
 | k + 1, j => by
  have ih := zfP xs k
  rw [clF, za3]
  split
  ·rw [zef]; split
   ·simp
   ·have := ih j; omega
  ·split
   ·rename_i h1 h2
    by_cases hj : j = 0
    ·subst hj; simp [cR]
    ·simp [cR, List.getElem?_eq_none (show [(([9676, zaa (at0 xs k)] : List Int), (1 : Int))].length ≤ j by simp; omega)]
   ·rename_i h1 h2
    rw [zfn _ _ _ _ (by omega)]
    split
    ·have := ih ((clF xs k).length - 1); simp; omega
    ·have := ih j; omega
theorem zou (r : Int) : 0 ≤ wid r ∧ wid r ≤ 2 := by
 unfold wid
 repeat' split
 all_goals omega
theorem zmf : (Tryz.prog.info? 205).map (fun i => (i.zero, i.size, i.bytes)) = some (some (.agg #[.slice none 0 0, .int .i64 0]), 2, 32) := by kernel_rfl
theorem zgQ : (Tryz.prog.info? 21).map (fun i => (i.zero, i.size, i.bytes)) = some (some (.int .i32 0), 1, 4) := by kernel_rfl
set_option maxRecDepth 10000 in
set_option maxHeartbeats 2000000 in
theorem zbv (v : Value) (xs : List Int) (w : World) (hv : zx w .i32 v xs) (hI : zdv xs) (hl : xs.length ≤ 16777216) :
  Calls Tryz.prog 177 #[v] w fun e w' => ∃ v' rs, e = .returned v' ∧ zal w' w.heap.size v' rs (zaB xs) ∧ Ext w w' := by
 obtain ⟨ic, hic, hc0, hc1, hc2⟩ := info_parts zmf
 obtain ⟨ii, hii, hi0, hi1, hi2⟩ := info_parts zgQ
 obtain ⟨ao, cap, rfl, hcap, hr⟩ := hv
 have HF : Hid (zaB xs = clF xs xs.length) := rfl
 obtain ⟨n, hn⟩ : ∃ n, n = xs.length := ⟨_, rfl⟩
 rw [← hn] at hcap hr hl HF ⊢
 have HR := zh hr
 clear hr hn
 go_enter Tryz.func177, Tryz.ntmps177
 go_wp2
 go_loopw [3, 4] (fun o i wr => ∃ (k : Nat) (rs : List Value), k ≤ n ∧ i = .int .i64 k ∧ Hid (zal wr w.heap.size o rs (clF xs k)) ∧ Ext w wr) (fun _ i _ => n - (intOf i).toNat)
 case atStart => exact ⟨0, [], Nat.zero_le _, rfl, ⟨rfl, ⟨[], by simpa [clF] using World.ownsRow_made w #[] 0 (Nat.le_refl _) (by unfold maxLen; omega) (by simp), fun j hj => by simp [clF] at hj⟩, fun j hj => by simp [clF] at hj, fun i j g _ hj => by simp [clF] at hj⟩, (Ext.refl _).alloc _⟩
 case round =>
  obtain ⟨k, rs, hk, rfl, HO, hext⟩ := hrel
  by_cases hlt : k < n
  ·obtain ⟨b, off, hao, hc⟩ := (zu HR) (by omega)
   subst hao
   have g1 := hext.cell (hc k hlt)
   clear hc
   have bk : (k : Int) < (n : Int) := by omega
   have hst : Hid (clF xs (k + 1) = za3 (clF xs k) (zaa (at0 xs k))) := rfl
   have hlen := zeb xs k
   have hrl := zfP xs k
   have HRL := zh hrl
   clear hrl
   obtain ⟨x, hx⟩ : ∃ x, x = zaa (at0 xs k) := ⟨_, rfl⟩
   have hxb := zdq (at0 xs k)
   have hIk := hI.at0 k
   have HX := zh hx
   rw [← hx] at hst hxb
   clear hx
   obtain ⟨cs, hcs⟩ : ∃ cs, cs = clF xs k := ⟨_, rfl⟩
   rw [← hcs] at HO hst hlen HRL
   have HCS := zh hcs
   clear hcs
   have hwb := zou x
   go_wp2_with fail
   refine (zc3 _ _).mono ?_
   rw [← zu HX]
   rintro e w1 ⟨rfl, rfl⟩
   go_wp2_with fail
   refine (zkV x _ (by omega) (by omega)).mono ?_
   rintro e w2 ⟨rfl, hb2⟩
   have F2 := Ext.of_below hb2
   have E2 := hext.trans F2
   have z2 := E2.size
   clear hb2
   obtain ⟨h0, ⟨ys, hy, hyy⟩, h3, h4⟩ := (zu HO).ext F2
   by_cases hwp : 0 < wid x
   ·have hsA : Hid (clF xs (k + 1) = cs ++ [([x], wid x)]) := by show _ = _; rw [hst.out, za3, if_pos hwp]
    have hyE := zh ((((Ext.refl w2).alloc (.cells #[.int .i32 x] 21)).alloc (.cells #[.slice (some ⟨w2.heap.size, 0, none⟩) 1 1, .int .i64 (wid x)] 205)).owns hy)
    have HYY := zh hyy
    have H3 := zh h3
    have hOC := zh ((zu HO).ext F2)
    clear hy hyy h3 h4
    go_wp2_with (at_builtin; go_must (refine wpList_append_own _ rfl _ _ 157 rfl w.heap.size 205 ic (.agg #[.slice none 0 0, .int .i64 0]) 2 32 Tryz.underlying157 hic hc0 hc1 hc2 rfl (by decide) _ _ _ rfl (zu hyE) ⟨w2.heap.size + 1, 0, none⟩ 1 1 [.slice (some ⟨w2.heap.size, 0, none⟩) 1 1, .int .i64 (wid x)] rfl rfl ?_ (zko rfl rfl) ?_ ?_ ?_ ?_))
    ·have := zbs (w := w2.alloc (.cells #[.int .i32 x] 21)) [.slice (some ⟨w2.heap.size, 0, none⟩) 1 1, .int .i64 (wid x)] 205
     simpa using this
    ·unfold maxLen; omega
    ·omega
    ·simp; omega
    ·intro v' w3 hown' hgrow _
     have E3 : Ext w w3 := ((E2.alloc _).alloc _).grown hgrow (fun q hq => ((zu hyE).lt q hq).1)
     have hO3 : zal w3 w.heap.size v' (rs ++ [.slice (some ⟨w2.heap.size, 0, none⟩) 1 1]) (cs ++ [([x], wid x)]) := by
      refine zal.push (((zu hOC).ext (((Ext.refl w2).alloc _).alloc _))) (zu hyE) (zu HYY) ?_ ?_ hown' hgrow
      ·exact ((Ext.refl _).alloc _).owns (zei .i32 [x] 21 w.heap.size 1 rfl (by omega) (by unfold maxLen; simp))
      ·intro j q hj hq
       have := ((zu H3) j hj).lt q hq
       simp [Value.ownBlock]; omega
     rw [← hsA.out] at hO3
     have HO3 := zh hO3
     clear hown' hgrow hO3 hyE hOC H3
     go_wp2
     go_roundw
     case rel => exact ⟨k + 1, _, by omega, by go_num, HO3, E3⟩
     case measure => simp [intOf]; omega
   ·have hw0 : wid x = 0 := by omega
    have hw0' : ¬ (0 : Int) < wid x := by omega
    by_cases hne : cs.length = 0
    ·have hce : cs = [] := List.eq_nil_of_length_eq_zero hne
     have hsB : Hid (clF xs (k + 1) = [([9676, x], 1)]) := by show _ = _; rw [hst.out, za3, if_neg hwp, if_pos hne]
     have hrs : rs = [] := List.eq_nil_of_length_eq_zero (by omega)
     subst hce
     subst hrs
     have hyE := zh ((((Ext.refl w2).alloc (.cells #[.int .i32 9676] 21)).alloc (.cells #[.slice (some ⟨w2.heap.size, 0, none⟩) 1 1, .int .i64 1] 205)).owns hy)
     have HYY := zh hyy
     have hOC := zh ((zu HO).ext F2)
     have hu3 : ∃ a c, u3 = .slice a 0 c := by
      rcases hy.2 with ⟨rfl, _⟩ | ⟨g, co, cur, rfl, _⟩
      ·exact ⟨_, _, rfl⟩
      ·exact ⟨_, _, rfl⟩
     obtain ⟨au, cu, hu3⟩ := hu3
     subst hu3
     clear hy hyy h3 h4 hw0 hne hlen
     go_wp2_with (at_builtin; go_must (refine wpList_append_own _ rfl _ _ 157 rfl w.heap.size 205 ic (.agg #[.slice none 0 0, .int .i64 0]) 2 32 Tryz.underlying157 hic hc0 hc1 hc2 rfl (by decide) _ _ _ rfl (zu hyE) ⟨w2.heap.size + 1, 0, none⟩ 1 1 [.slice (some ⟨w2.heap.size, 0, none⟩) 1 1, .int .i64 1] rfl rfl ?_ (zko rfl rfl) ?_ ?_ ?_ ?_))
     ·have := zbs (w := w2.alloc (.cells #[.int .i32 9676] 21)) [.slice (some ⟨w2.heap.size, 0, none⟩) 1 1, .int .i64 1] 205
      simpa using this
     ·unfold maxLen; simp
     ·simp
     ·simp; omega
     ·intro v' w3 hown' hgrow _
      have E3 : Ext w w3 := ((E2.alloc _).alloc _).grown hgrow (fun q hq => ((zu hyE).lt q hq).1)
      have hO3 : zal w3 w.heap.size v' ([] ++ [.slice (some ⟨w2.heap.size, 0, none⟩) 1 1]) ([] ++ [([9676], 1)]) := by
       refine zal.push (((zu hOC).ext (((Ext.refl w2).alloc _).alloc _))) (zu hyE) (zu HYY) ?_ ?_ hown' hgrow
       ·exact ((Ext.refl _).alloc _).owns (zei .i32 [9676] 21 w.heap.size 1 rfl (by omega) (by unfold maxLen; simp))
       ·intro j q hj hq
        simp at hj
      have z3 : w2.heap.size + 2 ≤ w3.heap.size := by have := hgrow.size; simpa using this
      rcases hown'.2 with ⟨_, h5⟩ | ⟨g, co, cur, hval, _⟩
      ·simp at h5
      subst hval
      simp only [List.nil_append] at hO3
      have hOC3 := zh hO3
      obtain ⟨_, ⟨ys3, hy3, hyy3⟩, h33, _⟩ := hO3
      have hcl : w3.cell? ⟨g, 0, none⟩ = some (.slice (some ⟨w2.heap.size, 0, none⟩) 1 1) := by
       have := hy3.cellAt 0 (by simp)
       rw [this]; simpa [rV] using (hyy3 0 (by simp)).1
      have hrmE := zh (((Ext.refl w3).alloc (.cells #[.int .i32 x] 21)).owns (h33 0 (by simp)))
      have HY := zh hy3
      clear hown' hgrow hyE hOC hy3 hyy3 h33
      go_wp2_with (at_builtin; go_must (refine wpList_append_own_at _ rfl _ _ 93 rfl w.heap.size 21 ii (.int .i32 0) 1 4 Tryz.underlying93 hii hi0 hi1 hi2 rfl (by decide) _ _ _ rfl (zu hrmE) ⟨w3.heap.size, 0, none⟩ 1 1 [.int .i32 x] rfl rfl ?_ ?_ ?_ ?_ ?_ ?_))
      ·exact zbs [.int .i32 x] 21
      ·intro u hu; simp at hu; subst hu; rfl
      ·unfold maxLen; simp [cR]
      ·simp [cR]
      ·simp; omega
      ·intro r' w4 hown' hgrow _ hat
       rcases hown'.2 with ⟨_, h5⟩ | ⟨gr, cr, curr, hvr, _⟩
       ·simp at h5
       subst hvr
       have hWE : Ext w3 (w3.alloc (.cells #[.int .i32 x] 21)) := (Ext.refl w3).alloc _
       have hy4 := za8 (w' := w4) (hWE.owns (zu HY)) (fun q hq => hgrow.block q ((hWE.owns (zu HY)).lt q hq).2 (fun e => zaw (hWE.owns (zu HY)) (zu hrmE) (by decide) hq e.symm))
       have f0 := hy4.frozenAt 0
       obtain ⟨u0, c0⟩ : ∃ u, w4.cell? ⟨g, 0, none⟩ = some u := by
        rw [hy4.cellAt _ (by simp)]; exact ⟨_, List.getElem?_eq_getElem (by have := hy4.1; simp at this; omega)⟩
       have E4 : Ext w w4 := (E3.alloc _).grown hgrow (fun q hq => ((zu hrmE).lt q hq).1)
       have hO4 := zal.grow (m := 0) (H := w3.heap.size + 1) (x := x) ((zu hOC3).ext hWE) (by simp) (fun i hi q hq => by
        simp at hi; subst hi; simp [rV, Value.ownBlock] at hq; omega) (by simpa using hown') hgrow (by simpa [rV] using hat)
       have hsB2 : Hid (clF xs (k + 1) = [([9676], (1 : Int))].set 0 (cR [([9676], (1 : Int))] 0 ++ [x], cW [([9676], (1 : Int))] 0)) := by
        show _ = _; rw [hsB.out]; simp [cR, cW]
       rw [← hsB2.out] at hO4
       have hgb := ((zu HY).lt g rfl).1
       have HO4 := zh hO4
       clear hown' hgrow hO4 hrmE hOC3 hy4 hat
       go_wp2
       go_roundw
       case rel => exact ⟨k + 1, _, by omega, by go_num, HO4, E4.setCell hgb _⟩
       case measure => simp [intOf]; omega
    ·have hsC : Hid (clF xs (k + 1) = cs.set (cs.length - 1) (cR cs (cs.length - 1) ++ [x], cW cs (cs.length - 1))) := by show _ = _; rw [hst.out, za3, if_neg hwp, if_neg hne]
     clear hw0
     rcases hy.2 with ⟨_, h5⟩ | ⟨g, co, cur, hval, _⟩
     ·omega
     subst hval
     obtain ⟨m, hm⟩ : ∃ m, cs.length = m + 1 := ⟨cs.length - 1, by omega⟩
     have hcl : w2.cell? ⟨g, m * 2, none⟩ = some (rV rs m) := by rw [hy.cellAt _ (by omega)]; exact (hyy m (by omega)).1
     have hrm := h3 m (by omega)
     have hgl := (hy.lt g rfl).2
     have hrmE := zh (((Ext.refl w2).alloc (.cells #[.int .i32 x] 21)).owns hrm)
     have hrr := (zu HRL) m
     have hOC := zh ((zu HO).ext F2)
     have HL := zh hm
     have hml : m + 1 ≤ k := by omega
     have hml2 : (m : Int) ≤ 16777216 := by omega
     have HY := zh hy
     have H3 := zh h3
     have hlen1 : ((cs.length : Int) == 0) = false := beq_eq_false_iff_ne.2 (by omega)
     rw [hm] at hlen1 hsC ⊢
     simp only [Nat.add_sub_cancel] at hsC
     clear hy hyy h3 h4 hrm hm hne
     go_wp2_with (at_builtin; go_must (refine wpList_append_own_at _ rfl _ _ 93 rfl w.heap.size 21 ii (.int .i32 0) 1 4 Tryz.underlying93 hii hi0 hi1 hi2 rfl (by decide) _ _ _ rfl (zu hrmE) ⟨w2.heap.size, 0, none⟩ 1 1 [.int .i32 x] rfl rfl ?_ ?_ ?_ ?_ ?_ ?_))
     ·exact zbs [.int .i32 x] 21
     ·intro u hu; simp at hu; subst hu; rfl
     ·unfold maxLen; omega
     ·omega
     ·simp; omega
     ·intro r' w3 hown' hgrow _ hat
      rcases hown'.2 with ⟨_, h5⟩ | ⟨gr, cr, curr, hvr, _⟩
      ·omega
      subst hvr
      have hWE : Ext w2 (w2.alloc (.cells #[.int .i32 x] 21)) := (Ext.refl w2).alloc _
      have hy3 := za8 (w' := w3) (hWE.owns (zu HY)) (fun q hq => hgrow.block q ((hWE.owns (zu HY)).lt q hq).2 (fun e => zaw (hWE.owns (zu HY)) (zu hrmE) (by decide) hq e.symm))
      have f0 := hy3.frozenAt (m * 2)
      obtain ⟨u0, c0⟩ : ∃ u, w3.cell? ⟨g, m * 2, none⟩ = some u := by
       rw [hy3.cellAt _ (by rw [zu HL]; omega)]; exact ⟨_, List.getElem?_eq_getElem (by have := hy3.1; rw [zu HL] at this; omega)⟩
      have E3 : Ext w w3 := (E2.alloc _).grown hgrow (fun q hq => ((zu hrmE).lt q hq).1)
      have hO3 := zal.grow (m := m) (H := w2.heap.size + 1) (x := x) ((zu hOC).ext hWE) (by rw [zu HL]; omega) (fun i hi q hq => by have := ((zu H3) i hi).lt q hq; omega) (by simpa using hown') hgrow (by simpa using hat)
      rw [← hsC.out] at hO3
      have hgb := ((zu HY).lt g rfl).1
      rw [zu HL] at hO3
      have HO3 := zh hO3
      clear hown' hgrow hO3 hrmE hOC H3 hy3 hat
      go_wp2
      go_roundw
      case rel => exact ⟨k + 1, _, by omega, by go_num, HO3, E3.setCell hgb _⟩
      case measure => simp [intOf]; omega
  ·obtain rfl : k = n := by omega
   rw [← HF.out] at HO
   go_wp2
   go_ret
   exact ⟨_, rs, rfl, zu HO, hext⟩
def zgb (W : World) (b : Nat) (d : SD) (gv hv bv : Value) : Prop :=
 W.cell? ⟨b, 0, none⟩ = some (.int .i64 d.cols) ∧ W.cell? ⟨b, 1, none⟩ = some (.int .i64 d.rows) ∧ W.cell? ⟨b, 2, none⟩ = some gv ∧ W.cell? ⟨b, 3, none⟩ = some (.int .i64 d.row) ∧ W.cell? ⟨b, 4, none⟩ = some (.int .i64 d.col) ∧ W.cell? ⟨b, 5, none⟩ = some (.bool d.late) ∧ W.cell? ⟨b, 6, none⟩ = some hv ∧ W.cell? ⟨b, 7, none⟩ = some bv
theorem zgb.fr {S : Nat → Prop} {W W' : World} {b : Nat} {d : SD} {gv hv bv : Value} (h : zgb W b d gv hv bv) (hf : Fr S W W') (hS : ¬ S b) : zgb W' b d gv hv bv := by
 obtain ⟨h0, h1, h2, h3, h4, h5, h6, h7⟩ := h
 have hb := hf.block b (zaj h0) hS
 exact ⟨(World.cell?_of_block (a := ⟨b, 0, none⟩) hb).trans h0, (World.cell?_of_block (a := ⟨b, 1, none⟩) hb).trans h1, (World.cell?_of_block (a := ⟨b, 2, none⟩) hb).trans h2, (World.cell?_of_block (a := ⟨b, 3, none⟩) hb).trans h3, (World.cell?_of_block (a := ⟨b, 4, none⟩) hb).trans h4, (World.cell?_of_block (a := ⟨b, 5, none⟩) hb).trans h5, (World.cell?_of_block (a := ⟨b, 6, none⟩) hb).trans h6, (World.cell?_of_block (a := ⟨b, 7, none⟩) hb).trans h7⟩
theorem zgb.ext {W W' : World} {b : Nat} {d : SD} {gv hv bv : Value} (h : zgb W b d gv hv bv) (he : Ext W W') : zgb W' b d gv hv bv := h.fr (Fr.of_ext (S := fun _ => False) he) (fun e => e)
theorem zgb.new (w : World) (d : SD) (gv hv bv : Value) : zgb (w.alloc (.cells #[.int .i64 d.cols, .int .i64 d.rows, gv, .int .i64 d.row, .int .i64 d.col, .bool d.late, hv, bv] 26)) w.heap.size d gv hv bv := by
 unfold zgb; simp [go_sem]
theorem zbY.forms {w : World} {d : SD} {gv hv bv : Value} (h : zbY w d gv hv bv) : ∃ ga gc ha hc ba bc, gv = .slice ga d.R gc ∧ hv = .slice ha d.hold.length hc ∧ bv = .slice ba d.nb bc := by
 obtain ⟨⟨_, ⟨ao, ca, e1, _⟩, _⟩, ⟨ah, ch, e2, _⟩, ⟨ab, cb, e3, _⟩⟩ := h
 exact ⟨ao, ca, ah, ch, ab, cb, e1, e2, e3⟩
def zlU (w : World) (v : Value) (R : Nat) (cs : Nat → List (List Int × Int)) : Prop :=
 ∃ rv : Nat → Value, zam w v R rv ∧ ∀ i, i < R → zaF w (rv i) (cs i)
theorem zlU.ext {w w' : World} {v : Value} {R : Nat} {cs : Nat → List (List Int × Int)} (h : zlU w v R cs) (he : Ext w w') : zlU w' v R cs := by
 obtain ⟨rv, h1, h2⟩ := h
 exact ⟨rv, h1.ext he, fun i hi => (h2 i hi).ext he⟩
def za7 (w : World) (base : Nat) (v : Value) (rv : Nat → Value) (rs : Nat → List Value) (R : Nat) (cs : Nat → List (List Int × Int)) : Prop :=
 za4 w base 157 v R rv ∧ (∀ i, i < R → zal w base (rv i) (rs i) (cs i)) ∧ (∀ i j g, i < j → j < R → zdl (rv i) (rs i) (cs i).length g → ¬ zdl (rv j) (rs j) (cs j).length g)
def CFoot (v : Value) (rv : Nat → Value) (rs : Nat → List Value) (R : Nat) (cs : Nat → List (List Int × Int)) (g : Nat) : Prop := v.ownBlock = some g ∨ ∃ i, i < R ∧ zdl (rv i) (rs i) (cs i).length g
section
variable {w w' : World} {base : Nat} {v : Value} {rv : Nat → Value} {rs : Nat → List Value} {R : Nat} {cs : Nat → List (List Int × Int)}
theorem za7.ext (h : za7 w base v rv rs R cs) (he : Ext w w') : za7 w' base v rv rs R cs := ⟨h.1.ext he, fun i hi => (h.2.1 i hi).ext he, h.2.2⟩
theorem za7.reads (h : za7 w base v rv rs R cs) : zlU w v R cs := ⟨rv, h.1.reads, fun i hi => (h.2.1 i hi).cls⟩
theorem za7.foot (h : za7 w base v rv rs R cs) {g : Nat} (hg : CFoot v rv rs R cs g) : base ≤ g ∧ g < w.heap.size := by
 rcases hg with hg | ⟨i, hi, hg⟩
 ·exact h.1.lt g hg
 ·exact (h.2.1 i hi).foot hg
theorem za7.fr {S : Nat → Prop} (h : za7 w base v rv rs R cs) (hf : Fr S w w') (hS : ∀ g, CFoot v rv rs R cs g → ¬ S g) : za7 w' base v rv rs R cs :=
 ⟨h.1.fr hf (fun g hg => hS g (.inl hg)), fun i hi => (h.2.1 i hi).fr hf (fun g hg => hS g (.inr ⟨i, hi, hg⟩)), h.2.2⟩
theorem zhZ {xs : List Value} {n : Nat} {v r : Value} {rr : List Value} {c : List (List Int × Int)} {base' : Nat} (h1 : w.ownsRow base 157 1 v n xs) (h2 : zal w base' r rr c) {g : Nat} (hg : zdl r rr c.length g) : v.ownBlock ≠ some g := by
 obtain ⟨_, ⟨ys, h3, _⟩, h4, _⟩ := h2
 rcases hg with hg | ⟨j, hj, hg⟩
 ·exact zaw h3 h1 (by decide) hg
 ·exact zaw (h4 j hj) h1 (by decide) hg
theorem za7.apart (h : za7 w base v rv rs R cs) {i g : Nat} (hi : i < R) (hg : zdl (rv i) (rs i) (cs i).length g) : v.ownBlock ≠ some g := by
 obtain ⟨ys, h1, _⟩ := h.1
 exact zhZ h1 (h.2.1 i hi) hg
theorem za7.row {c' : List (List Int × Int)} {j : Nat} (h : za7 w base v rv rs R cs) (hj : j < R) (hl : c'.length = (cs j).length) (ho : zal w' base (rv j) (rs j) c') (hf : Fr (zdl (rv j) (rs j) (cs j).length) w w') :
  za7 w' base v rv rs R (fun i => if i = j then c' else cs i) := by
 have hlen : ∀ i, (if i = j then c' else cs i).length = (cs i).length := fun i => by
  by_cases e : i = j
  ·subst e; rw [if_pos rfl, hl]
  ·rw [if_neg e]
 refine ⟨h.1.fr hf (fun g hg e => h.apart hj e hg), fun i hi => ?_, fun i i' g hii hi' h1 => ?_⟩
 ·dsimp only
  by_cases e : i = j
  ·subst e; rw [if_pos rfl]; exact ho
  ·rw [if_neg e]
   refine (h.2.1 i hi).fr hf (fun g hg e2 => ?_)
   rcases Nat.lt_or_gt_of_ne e with h5 | h5
   ·exact h.2.2 i j g h5 hj hg e2
   ·exact h.2.2 j i g h5 hi e2 hg
 ·rw [hlen] at h1 ⊢
  exact h.2.2 i i' g hii hi' h1
theorem zal.mono {base' : Nat} {r : Value} {rr : List Value} {c : List (List Int × Int)} (h : zal w base r rr c) (hb : base' ≤ base) : zal w base' r rr c := by
 obtain ⟨h0, ⟨ys, h1, h2⟩, h3, h4⟩ := h
 exact ⟨h0, ⟨ys, zah h1 hb, h2⟩, fun j hj => zah (h3 j hj) hb, h4⟩
theorem za7.push {v' r : Value} {rr : List Value} {c : List (List Int × Int)} {ys : List Value} (h : za7 w base v rv rs R cs) (hy : w.ownsRow base 157 1 v R ys) (hyy : ∀ j, j < R → ys[j]? = some (rv j))
  (hr : zal w base r rr c) (hap : ∀ i g, i < R → zdl (rv i) (rs i) (cs i).length g → ¬ zdl r rr c.length g) (ho : w'.ownsRow base 157 1 v' (R + 1) (ys ++ [r])) (hg : w.grownBy w' v.ownBlock) :
  za7 w' base v' (fun i => if i = R then r else rv i) (fun i => if i = R then rr else rs i) (R + 1) (fun i => if i = R then c else cs i) := by
 have fr : Fr (fun k => v.ownBlock = some k) w w' := (Fr.refl _ _).grown hg (fun k hk => hk)
 refine ⟨zmU (by have := hy.1; omega) hyy ho, fun i hi => ?_, fun i j g hij hj h1 => ?_⟩
 ·dsimp only
  by_cases e : i = R
  ·subst e; rw [if_pos rfl, if_pos rfl, if_pos rfl]
   exact hr.fr fr (fun g hg e => zhZ hy hr hg e)
  ·rw [if_neg e, if_neg e, if_neg e]
   exact (h.2.1 i (by omega)).fr fr (fun g hg e => h.apart (by omega) hg e)
 ·dsimp only at h1 ⊢
  rw [if_neg (by omega), if_neg (by omega), if_neg (by omega)] at h1
  by_cases e : j = R
  ·subst e; rw [if_pos rfl, if_pos rfl, if_pos rfl]
   exact hap i g (by omega) h1
  ·rw [if_neg e, if_neg e, if_neg e]
   exact h.2.2 i j g hij (by omega) h1
theorem za7.congr {cs' : Nat → List (List Int × Int)} (h : za7 w base v rv rs R cs) (e : ∀ i, i < R → cs i = cs' i) : za7 w base v rv rs R cs' :=
 ⟨h.1, fun i hi => by rw [← e i hi]; exact h.2.1 i hi, fun i j g hij hj h1 => by rw [← e i (by omega)] at h1; rw [← e j hj]; exact h.2.2 i j g hij hj h1⟩
end
def gkC (k : Int) (cs : Nat → List (List Int × Int)) : Nat → Int
 | 0 => k
 | i + 1 => kkC (gkC k cs i) (cs i) (cs i).length
def znD (k : Int) (cs : Nat → List (List Int × Int)) (R : Nat) : Prop := ∀ i, i < R → Small (gkC k cs i) (cs i) ∧ (cs i).length ≤ 4398046511104 ∧ ∀ j, j < (cs i).length → (cR (cs i) j).length ≤ 4398046511104
theorem znD.pos {k : Int} {cs : Nat → List (List Int × Int)} {R : Nat} (h : znD k cs R) {i : Nat} (hi : i < R) : 0 ≤ gkC k cs (i + 1) := ((h i hi).1 _ (Nat.le_refl _)).1
theorem zaG.setA {w : World} {base : Nat} {T : TypeId} {n : Nat} {A B : Nat → Value} {g cap j : Nat} (h : zaG w base T (.slice (some ⟨g, 0, none⟩) n cap) n A B) (hj : j < n) (u : Value) :
  zaG (w.setCell ⟨g, j * 2, none⟩ u) base T (.slice (some ⟨g, 0, none⟩) n cap) n (fun i => if i = j then u else A i) B := by
 obtain ⟨ys, h1, h2⟩ := h
 have hl := h1.1
 refine ⟨_, (h1.stored (j * 2) u).1, fun i hi => ?_⟩
 dsimp only
 by_cases e : i = j
 ·subst e
  rw [if_pos rfl, List.getElem?_set_self (by omega), List.getElem?_set_ne (by omega)]
  exact ⟨rfl, (h2 i hi).2⟩
 ·rw [if_neg e, List.getElem?_set_ne (by omega), List.getElem?_set_ne (by omega)]
  exact h2 i hi
theorem zaG.setB {w : World} {base : Nat} {T : TypeId} {n : Nat} {A B : Nat → Value} {g cap j : Nat} (h : zaG w base T (.slice (some ⟨g, 0, none⟩) n cap) n A B) (hj : j < n) (u : Value) :
  zaG (w.setCell ⟨g, j * 2 + 1, none⟩ u) base T (.slice (some ⟨g, 0, none⟩) n cap) n A (fun i => if i = j then u else B i) := by
 obtain ⟨ys, h1, h2⟩ := h
 have hl := h1.1
 refine ⟨_, (h1.stored (j * 2 + 1) u).1, fun i hi => ?_⟩
 dsimp only
 by_cases e : i = j
 ·subst e
  rw [if_pos rfl, List.getElem?_set_ne (by omega), List.getElem?_set_self (by omega)]
  exact ⟨(h2 i hi).1, rfl⟩
 ·rw [if_neg e, List.getElem?_set_ne (by omega), List.getElem?_set_ne (by omega)]
  exact h2 i hi
def zmk (w : World) (v : Value) (cs : List (List Int × Int)) : Prop :=
 ∃ (rs : List Value) (ao : Option Addr) (cap : Nat), v = .slice ao cs.length cap ∧ cs.length ≤ cap ∧ (∀ j, j < cs.length → zx w .i32 (rV rs j) (cR cs j)) ∧
  (0 < cs.length → ∃ b off, ao = some ⟨b, off, none⟩ ∧ ∀ j, j < cs.length → w.cell? ⟨b, off + j * 2 + 1, none⟩ = some (rV rs j) ∧ w.cell? ⟨b, off + j * 2, none⟩ = some (.int .i64 (cW cs j)))
theorem zmk.ext {w w' : World} {v : Value} {cs : List (List Int × Int)} (h : zmk w v cs) (he : Ext w w') : zmk w' v cs := by
 obtain ⟨rs, ao, cap, e, hc, hr, hx⟩ := h
 exact ⟨rs, ao, cap, e, hc, fun j hj => (hr j hj).ext he, fun hp => by
  obtain ⟨b, off, e2, hcell⟩ := hx hp
  exact ⟨b, off, e2, fun j hj => ⟨he.cell (hcell j hj).1, he.cell (hcell j hj).2⟩⟩⟩
def zaA (w : World) (base : Nat) (v : Value) (rs : List Value) (cs : List (List Int × Int)) : Prop :=
 rs.length = cs.length ∧ (∃ ys, w.ownsRow base 95 2 v cs.length ys ∧ ∀ j, j < cs.length → ys[j * 2 + 1]? = some (rV rs j) ∧ ys[j * 2]? = some (.int .i64 (cW cs j))) ∧
 (∀ j, j < cs.length → w.ownsRow base 21 1 (rV rs j) (cR cs j).length ((cR cs j).map (Value.int .i32))) ∧
 (∀ i j g, i < j → j < cs.length → (rV rs i).ownBlock = some g → (rV rs j).ownBlock ≠ some g)
theorem zaA.ext {w w' : World} {base : Nat} {v : Value} {rs : List Value} {cs : List (List Int × Int)} (h : zaA w base v rs cs) (he : Ext w w') : zaA w' base v rs cs := by
 obtain ⟨h0, ⟨ys, h1, h2⟩, h3, h4⟩ := h
 exact ⟨h0, ⟨ys, he.owns h1, h2⟩, fun j hj => he.owns (h3 j hj), h4⟩
theorem zaA.cls {w : World} {base : Nat} {v : Value} {rs : List Value} {cs : List (List Int × Int)} (h : zaA w base v rs cs) : zmk w v cs := by
 obtain ⟨_, ⟨ys, h1, h2⟩, h3, _⟩ := h
 rcases h1.2 with ⟨rfl, h0⟩ | ⟨g, cap, cur, rfl, hb, hg, hn, hm, hs, ht⟩
 ·exact ⟨rs, none, 0, by rw [h0], by omega, fun j hj => by omega, fun hp => by omega⟩
 ·refine ⟨rs, _, cap, rfl, hn, fun j hj => zz (h3 j hj), fun _ => ⟨g, 0, rfl, fun j hj => ?_⟩⟩
  have := h2 j hj
  rw [Nat.zero_add, h1.cellAt _ (by omega), h1.cellAt _ (by omega)]
  exact this
theorem zaA.push {W W' : World} {base : Nat} {v v' r : Value} {rs : List Value} {cs : List (List Int × Int)} {xs : List Int} {d : Int} {ys : List Value}
  (h : zaA W base v rs cs) (hy : W.ownsRow base 95 2 v cs.length ys) (hyy : ∀ j, j < cs.length → ys[j * 2 + 1]? = some (rV rs j) ∧ ys[j * 2]? = some (.int .i64 (cW cs j)))
  (hr : W.ownsRow base 21 1 r xs.length (xs.map (Value.int .i32))) (hfr : ∀ j g, j < cs.length → (rV rs j).ownBlock = some g → r.ownBlock ≠ some g)
  (ho : W'.ownsRow base 95 2 v' (cs.length + 1) (ys ++ [.int .i64 d, r])) (hg : W.grownBy W' v.ownBlock) : zaA W' base v' (rs ++ [r]) (cs ++ [(xs, d)]) := by
 obtain ⟨h0, _, h3, h4⟩ := h
 have hyl := hy.1
 have keep : ∀ (u : Value) (m : Nat) (zs : List Value), W.ownsRow base 21 1 u m zs → W'.ownsRow base 21 1 u m zs := fun u m zs hu =>
  za8 hu (fun g hgu => hg.block g (hu.lt g hgu).2 (fun e => zaw hu hy (by decide) hgu e.symm))
 refine ⟨by simp [h0], ⟨_, by simpa using ho, fun j hj => ?_⟩, fun j hj => ?_, fun i j g hij hj hk => ?_⟩
 ·simp at hj
  by_cases e : j = cs.length
  ·subst e
   rw [← h0, zed, h0, zem, if_pos rfl]
   constructor
   ·rw [List.getElem?_append_right (by omega)]; simp [hyl]
   ·rw [List.getElem?_append_right (by omega)]; simp [hyl]
  ·rw [zcV rs r j (by omega), zem, if_neg e, List.getElem?_append_left (by omega), List.getElem?_append_left (by omega)]
   exact hyy j (by omega)
 ·simp at hj
  rw [zef]
  by_cases e : j = cs.length
  ·subst e
   rw [← h0, zed, h0, if_pos rfl]
   exact keep _ _ _ hr
  ·rw [zcV rs r j (by omega), if_neg e]
   exact keep _ _ _ (h3 j (by omega))
 ·simp at hj
  rw [zcV rs r i (by omega)] at hk
  by_cases e : j = cs.length
  ·subst e
   rw [← h0, zed]
   exact hfr i g (by omega) hk
  ·rw [zcV rs r j (by omega)]
   exact h4 i j g hij (by omega) hk
theorem zaA.fr {S : Nat → Prop} {w w' : World} {base : Nat} {v : Value} {rs : List Value} {cs : List (List Int × Int)} (h : zaA w base v rs cs) (hf : Fr S w w') (hS : ∀ g, zdl v rs cs.length g → ¬ S g) : zaA w' base v rs cs := by
 obtain ⟨h0, ⟨ys, h1, h2⟩, h3, h4⟩ := h
 exact ⟨h0, ⟨ys, hf.owns h1 (fun g hg => hS g (.inl hg)), h2⟩, fun j hj => hf.owns (h3 j hj) (fun g hg => hS g (.inr ⟨j, hj, hg⟩)), h4⟩
theorem zaA.foot {w : World} {base : Nat} {v : Value} {rs : List Value} {cs : List (List Int × Int)} (h : zaA w base v rs cs) {g : Nat} (hg : zdl v rs cs.length g) : base ≤ g ∧ g < w.heap.size := by
 obtain ⟨h0, ⟨ys, h1, h2⟩, h3, h4⟩ := h
 rcases hg with hg | ⟨j, hj, hg⟩
 ·exact h1.lt g hg
 ·exact (h3 j hj).lt g hg
theorem zaA.mark {W W1 : World} {base g j cap : Nat} {rs : List Value} {cs : List (List Int × Int)} {zs : List Int} {d : Int}
  (h : zaA W base (.slice (some ⟨g, 0, none⟩) cs.length cap) rs cs) (hj : j < cs.length) (hz : zs.length = (cR cs j).length)
  (ho : W1.ownsRow base 21 1 (rV rs j) (cR cs j).length (zs.map (Value.int .i32))) (hg : (W.setCell ⟨g, j * 2, none⟩ (.int .i64 d)).grownBy W1 (rV rs j).ownBlock) :
  zaA W1 base (.slice (some ⟨g, 0, none⟩) cs.length cap) rs (cs.set j (zs, d)) := by
 obtain ⟨h0, ⟨ys, hy, hyy⟩, h3, h4⟩ := h
 have hyl := hy.1
 have ng : ∀ (u : Value) (n : Nat) (zs : List Value), W.ownsRow base 21 1 u n zs → u.ownBlock ≠ some g := fun u n zs hu e => zaw hu hy (by decide) e rfl
 have s0 := (hy.stored (j * 2) (.int .i64 d)).1
 have s1 : W1.ownsRow base 95 2 (.slice (some ⟨g, 0, none⟩) cs.length cap) cs.length (ys.set (j * 2) (.int .i64 d)) :=
  za8 s0 (fun k hk => hg.block k (s0.lt k hk).2 (fun e => zaw hy (h3 j hj) (by decide) hk e.symm))
 have old : ∀ i, i < cs.length → i ≠ j → W1.ownsRow base 21 1 (rV rs i) (cR cs i).length ((cR cs i).map (Value.int .i32)) := fun i hi hne => by
  have h5 := zbW (a := ⟨g, j * 2, none⟩) (h3 i hi) (ng _ _ _ (h3 i hi)) (.int .i64 d)
  exact za8 h5 (fun k hk => hg.block k (h5.lt k hk).2 (fun e => by
   rcases Nat.lt_or_gt_of_ne hne with h6 | h6
   ·exact h4 i j k h6 hj hk e.symm
   ·exact h4 j i k h6 hi e.symm hk))
 refine ⟨by simp [h0], ⟨ys.set (j * 2) (.int .i64 d), by simpa using s1, fun i hi => ?_⟩, fun i hi => ?_, fun i j' k hij hj' hk => h4 i j' k hij (by simpa using hj') hk⟩
 ·simp at hi
  rw [zgW cs j _ i hj]
  by_cases e : i = j
  ·subst e
   rw [if_pos rfl]
   exact ⟨by rw [List.getElem?_set_ne (by omega)]; exact (hyy i hi).1, List.getElem?_set_self (by omega)⟩
  ·rw [if_neg e, List.getElem?_set_ne (by omega), List.getElem?_set_ne (by omega)]
   exact hyy i hi
 ·simp at hi
  rw [zfn cs j _ i hj]
  by_cases e : i = j
  ·subst e
   rw [if_pos rfl]
   simpa [hz] using ho
  ·rw [if_neg e]
   exact old i hi e
end Go.Proofs.YtinfdhbnljnifaaGreatDoor
