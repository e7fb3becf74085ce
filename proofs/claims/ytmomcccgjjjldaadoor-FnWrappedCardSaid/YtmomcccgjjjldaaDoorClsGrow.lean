import Derived.Test.YtmomcccgjjjldaaDoorCls
import Derived.Maps.AppendAt
namespace Go.Proofs.YtmomcccgjjjldaaDoor
open Go.RowKit
theorem owns_same {w w' : World} {base : Nat} {e : TypeId} {size : Nat} {v : Value} {n : Nat} {xs : List Value} (ho : w.ownsRow base e size v n xs) (h : ∀ g, v.ownBlock = some g → w'.heap[g]? = w.heap[g]?) : w'.ownsRow base e size v n xs := by
  refine ⟨ho.1, ?_⟩
  rcases ho.2 with h1 | ⟨g, cap, cur, rfl, h2, h3, h4⟩
  · exact .inl h1
  · exact .inr ⟨g, cap, cur, rfl, h2, (h g rfl).trans h3, h4⟩
theorem owns_kind {w : World} {base : Nat} {e : TypeId} {size : Nat} {v : Value} {n : Nat} {xs : List Value} (ho : w.ownsRow base e size v n xs) {g : Nat} (hg : v.ownBlock = some g) : ∃ cur, w.heap[g]? = some (.cells cur e (0, 0)) := by
  rcases ho.2 with ⟨rfl, _⟩ | ⟨g', cap, cur, rfl, h2, h3, h4⟩
  · simp [Value.ownBlock] at hg
  · simp [Value.ownBlock] at hg
    subst hg
    exact ⟨cur, h3⟩
theorem owns_apart {w : World} {b1 b2 : Nat} {e1 e2 : TypeId} {s1 s2 : Nat} {v1 v2 : Value} {n1 n2 : Nat} {x1 x2 : List Value} (h1 : w.ownsRow b1 e1 s1 v1 n1 x1) (h2 : w.ownsRow b2 e2 s2 v2 n2 x2) (hne : e1 ≠ e2) {g : Nat} (hg : v1.ownBlock = some g) : v2.ownBlock ≠ some g := by
  intro hg2
  obtain ⟨c1, k1⟩ := owns_kind h1 hg
  obtain ⟨c2, k2⟩ := owns_kind h2 hg2
  rw [k1] at k2
  simp at k2
  exact hne k2.2
theorem rV_set (rs : List Value) (m : Nat) (r : Value) (j : Nat) (hm : m < rs.length) : rV (rs.set m r) j = if j = m then r else rV rs j := by
  unfold rV
  by_cases h : j = m
  · subst h; simp [hm]
  · rw [if_neg h, List.getElem?_set_ne (by omega)]
theorem cR_set (cs : List (List Int × Int)) (m : Nat) (c : List Int × Int) (j : Nat) (hm : m < cs.length) : cR (cs.set m c) j = if j = m then c.1 else cR cs j := by
  unfold cR
  by_cases h : j = m
  · subst h; simp [hm]
  · rw [if_neg h, List.getElem?_set_ne (by omega)]
theorem cW_set (cs : List (List Int × Int)) (m : Nat) (c : List Int × Int) (j : Nat) (hm : m < cs.length) : cW (cs.set m c) j = if j = m then c.2 else cW cs j := by
  unfold cW
  by_cases h : j = m
  · subst h; simp [hm]
  · rw [if_neg h, List.getElem?_set_ne (by omega)]
theorem cR_push (cs : List (List Int × Int)) (c : List Int × Int) (j : Nat) : cR (cs ++ [c]) j = if j = cs.length then c.1 else cR cs j := by
  unfold cR
  by_cases h : j = cs.length
  · subst h; simp
  · rw [if_neg h]
    by_cases h2 : j < cs.length
    · rw [List.getElem?_append_left h2]
    · rw [List.getElem?_eq_none (by simp; omega), List.getElem?_eq_none (by omega)]
theorem cW_push (cs : List (List Int × Int)) (c : List Int × Int) (j : Nat) : cW (cs ++ [c]) j = if j = cs.length then c.2 else cW cs j := by
  unfold cW
  by_cases h : j = cs.length
  · subst h; simp
  · rw [if_neg h]
    by_cases h2 : j < cs.length
    · rw [List.getElem?_append_left h2]
    · rw [List.getElem?_eq_none (by simp; omega), List.getElem?_eq_none (by omega)]
theorem OwnCls.push {W W' : World} {base : Nat} {v v' r : Value} {rs : List Value} {cs : List (List Int × Int)} {xs : List Int} {d : Int} {ys : List Value}
    (h : OwnCls W base v rs cs) (hy : W.ownsRow base 32 2 v cs.length ys) (hyy : ∀ j, j < cs.length → ys[j * 2]? = some (rV rs j) ∧ ys[j * 2 + 1]? = some (.int .i64 (cW cs j)))
    (hr : W.ownsRow base 21 1 r xs.length (xs.map (Value.int .i32))) (hfr : ∀ j g, j < cs.length → (rV rs j).ownBlock = some g → r.ownBlock ≠ some g)
    (ho : W'.ownsRow base 32 2 v' (cs.length + 1) (ys ++ [r, .int .i64 d])) (hg : W.grownBy W' v.ownBlock) : OwnCls W' base v' (rs ++ [r]) (cs ++ [(xs, d)]) := by
  obtain ⟨h0, _, h3, h4⟩ := h
  have hyl := hy.1
  have keep : ∀ (u : Value) (m : Nat) (zs : List Value), W.ownsRow base 21 1 u m zs → W'.ownsRow base 21 1 u m zs := fun u m zs hu =>
    owns_same hu (fun g hgu => hg.block g (hu.lt g hgu).2 (fun e => owns_apart hu hy (by decide) hgu e.symm))
  refine ⟨by simp [h0], ⟨_, by simpa using ho, fun j hj => ?_⟩, fun j hj => ?_, fun i j g hij hj hk => ?_⟩
  · simp at hj
    by_cases e : j = cs.length
    · subst e
      rw [← h0, rV_last, h0, cW_push, if_pos rfl]
      constructor
      · rw [List.getElem?_append_right (by omega)]; simp [hyl]
      · rw [List.getElem?_append_right (by omega)]; simp [hyl]
    · rw [rV_push rs r j (by omega), cW_push, if_neg e, List.getElem?_append_left (by omega), List.getElem?_append_left (by omega)]
      exact hyy j (by omega)
  · simp at hj
    rw [cR_push]
    by_cases e : j = cs.length
    · subst e
      rw [← h0, rV_last, h0, if_pos rfl]
      exact keep _ _ _ hr
    · rw [rV_push rs r j (by omega), if_neg e]
      exact keep _ _ _ (h3 j (by omega))
  · simp at hj
    rw [rV_push rs r i (by omega)] at hk
    by_cases e : j = cs.length
    · subst e
      rw [← h0, rV_last]
      exact hfr i g (by omega) hk
    · rw [rV_push rs r j (by omega)]
      exact h4 i j g hij (by omega) hk
theorem OwnCls.grow {W W1 : World} {base g m cap H : Nat} {r' : Value} {rs : List Value} {cs : List (List Int × Int)} {x : Int}
    (h : OwnCls W base (.slice (some ⟨g, 0, none⟩) cs.length cap) rs cs) (hm : m < cs.length) (hlt : ∀ i, i < cs.length → ∀ k, (rV rs i).ownBlock = some k → k < H)
    (ho : W1.ownsRow base 21 1 r' ((cR cs m).length + 1) ((cR cs m ++ [x]).map (Value.int .i32))) (hg : W.grownBy W1 (rV rs m).ownBlock) (hat : r'.ownBlock = (rV rs m).ownBlock ∨ r'.ownBlock = some H) :
    OwnCls (W1.setCell ⟨g, m * 2, none⟩ r') base (.slice (some ⟨g, 0, none⟩) cs.length cap) (rs.set m r') (cs.set m (cR cs m ++ [x], cW cs m)) := by
  obtain ⟨h0, ⟨ys, hy, hyy⟩, h3, h4⟩ := h
  have hyl := hy.1
  have hy1 : W1.ownsRow base 32 2 (.slice (some ⟨g, 0, none⟩) cs.length cap) cs.length ys :=
    owns_same hy (fun k hk => hg.block k (hy.lt k hk).2 (fun e => owns_apart hy (h3 m hm) (by decide) hk e.symm))
  have s1 := (hy1.stored (m * 2) r').1
  have ng : ∀ (u : Value) (n : Nat) (zs : List Value), W1.ownsRow base 21 1 u n zs → u.ownBlock ≠ some g := fun u n zs hu e => owns_apart hu hy1 (by decide) e rfl
  have keep : ∀ (u : Value) (n : Nat) (zs : List Value), W1.ownsRow base 21 1 u n zs → (W1.setCell ⟨g, m * 2, none⟩ r').ownsRow base 21 1 u n zs := fun u n zs hu =>
    owns_setCell hu (ng u n zs hu) _
  have old : ∀ j, j < cs.length → j ≠ m → W1.ownsRow base 21 1 (rV rs j) (cR cs j).length ((cR cs j).map (Value.int .i32)) := fun j hj hne =>
    owns_same (h3 j hj) (fun k hk => hg.block k ((h3 j hj).lt k hk).2 (fun e => by
      rcases Nat.lt_or_gt_of_ne hne with h5 | h5
      · exact h4 j m k h5 hm hk e.symm
      · exact h4 m j k h5 hj e.symm hk))
  have new : ∀ j, j < cs.length → j ≠ m → ∀ k, (rV rs j).ownBlock = some k → r'.ownBlock ≠ some k := fun j hj hne k hk e => by
    rcases hat with h5 | h5
    · rw [h5] at e
      rcases Nat.lt_or_gt_of_ne hne with h6 | h6
      · exact h4 j m k h6 hm hk e
      · exact h4 m j k h6 hj e hk
    · rw [h5] at e
      have := hlt j hj k hk
      simp at e
      omega
  refine ⟨by simp [h0], ⟨ys.set (m * 2) r', by simpa using s1, fun j hj => ?_⟩, fun j hj => ?_, fun i j k hij hj hk => ?_⟩
  · simp at hj
    rw [rV_set rs m r' j (by omega), cW_set cs m _ j hm]
    by_cases e : j = m
    · subst e
      rw [if_pos rfl, if_pos rfl]
      exact ⟨List.getElem?_set_self (by omega), by rw [List.getElem?_set_ne (by omega)]; exact (hyy j hj).2⟩
    · rw [if_neg e, if_neg e, List.getElem?_set_ne (by omega), List.getElem?_set_ne (by omega)]
      exact hyy j hj
  · simp at hj
    rw [rV_set rs m r' j (by omega), cR_set cs m _ j hm]
    by_cases e : j = m
    · subst e
      rw [if_pos rfl, if_pos rfl]
      exact keep _ _ _ (by simpa using ho)
    · rw [if_neg e, if_neg e]
      exact keep _ _ _ (old j hj e)
  · simp at hj
    rw [rV_set rs m r' i (by omega)] at hk
    rw [rV_set rs m r' j (by omega)]
    by_cases e : i = m
    · subst e
      rw [if_pos rfl] at hk
      rw [if_neg (by omega)]
      intro e2
      exact new j hj (by omega) k e2 hk
    · rw [if_neg e] at hk
      by_cases e2 : j = m
      · subst e2
        rw [if_pos rfl]
        exact new i (by omega) (by omega) k hk
      · rw [if_neg e2]
        exact h4 i j k hij hj hk
theorem news_cells {w : World} (zs : List Value) (t : TypeId) : ∀ j u, zs[j]? = some u → (w.alloc (.cells zs.toArray t)).cell? ((⟨w.heap.size, 0, none⟩ : Addr).add j) = some u := by
  intro j u h
  rw [Addr.add_lit, Nat.zero_add, World.cell?_alloc_at _ _ _ _ rfl]
  simpa using h
theorem pair_one {a b : Value} (ha : a.oneCell' = true) (hb : b.oneCell' = true) : ∀ u ∈ [a, b], u.oneCell' = true := by
  intro u hu
  simp at hu
  rcases hu with rfl | rfl <;> assumption
theorem own_lit {w : World} (k : IntKind) (zs : List Int) (t base n : Nat) (hn : n = zs.length) (hb : base ≤ w.heap.size) (hm : zs.length ≤ maxLen) : (w.alloc (.cells (zs.map (Value.int k)).toArray t)).ownsRow base t 1 (.slice (some ⟨w.heap.size, 0, none⟩) n n) zs.length (zs.map (Value.int k)) := by
  subst hn
  simpa using World.ownsRow_lit (w := w) (base := base) (e := t) (size := 1) (zs.map (Value.int k)).toArray zs.length hb hm (by simp)
end Go.Proofs.YtmomcccgjjjldaaDoor
