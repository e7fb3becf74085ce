import Derived.Test.YtkimnihdjeonpaaCls
import Derived.Maps.AppendAt
namespace Go.Proofs.Ytkimnihdjeonpaa
open Go.RowKit
theorem owns_same {w w' : World} {base : Nat} {e : TypeId} {size : Nat} {v : Value} {n : Nat} {xs : List Value} (ho : w.ownsRow base e size v n xs) (h : ∀ g, v.ownBlock = some g → w'.heap[g]? = w.heap[g]?) : w'.ownsRow base e size v n xs := by
  refine ⟨ho.1, ?_⟩
  rcases ho.2 with h1 | ⟨g, cap, cur, rfl, h2, h3, h4⟩
  · exact .inl h1
  · exact .inr ⟨g, cap, cur, rfl, h2, (h g rfl).trans h3, h4⟩
theorem owns_kind {w : World} {base : Nat} {e : TypeId} {size : Nat} {v : Value} {n : Nat} {xs : List Value} (ho : w.ownsRow base e size v n xs) {g : Nat} (hg : v.ownBlock = some g) : ∃ cur, w.heap[g]? = some (.cells cur e (0, 0)) := by
  rcases ho.2 with ⟨rfl, _⟩ | ⟨g', cap, cur, rfl, h2, h3, h4⟩
  · simp [Value.ownBlock] at hg
  · simp [Value.ownBlock] at hg
    subst hg
    exact ⟨cur, h3⟩
theorem owns_apart {w : World} {b1 b2 : Nat} {e1 e2 : TypeId} {s1 s2 : Nat} {v1 v2 : Value} {n1 n2 : Nat} {x1 x2 : List Value} (h1 : w.ownsRow b1 e1 s1 v1 n1 x1) (h2 : w.ownsRow b2 e2 s2 v2 n2 x2) (hne : e1 ≠ e2) {g : Nat} (hg : v1.ownBlock = some g) : v2.ownBlock ≠ some g := by
  intro hg2
  obtain ⟨c1, k1⟩ := owns_kind h1 hg
  obtain ⟨c2, k2⟩ := owns_kind h2 hg2
  rw [k1] at k2
  simp at k2
  exact hne k2.2
theorem cR_set (cs : List (List Int × Int)) (m : Nat) (c : List Int × Int) (j : Nat) (hm : m < cs.length) : cR (cs.set m c) j = if j = m then c.1 else cR cs j := by
  unfold cR
  by_cases h : j = m
  · subst h; simp [hm]
  · rw [if_neg h, List.getElem?_set_ne (by omega)]
theorem cW_set (cs : List (List Int × Int)) (m : Nat) (c : List Int × Int) (j : Nat) (hm : m < cs.length) : cW (cs.set m c) j = if j = m then c.2 else cW cs j := by
  unfold cW
  by_cases h : j = m
  · subst h; simp [hm]
  · rw [if_neg h, List.getElem?_set_ne (by omega)]
theorem cR_push (cs : List (List Int × Int)) (c : List Int × Int) (j : Nat) : cR (cs ++ [c]) j = if j = cs.length then c.1 else cR cs j := by
  unfold cR
  by_cases h : j = cs.length
  · subst h; simp
  · rw [if_neg h]
    by_cases h2 : j < cs.length
    · rw [List.getElem?_append_left h2]
    · rw [List.getElem?_eq_none (by simp; omega), List.getElem?_eq_none (by omega)]
theorem cW_push (cs : List (List Int × Int)) (c : List Int × Int) (j : Nat) : cW (cs ++ [c]) j = if j = cs.length then c.2 else cW cs j := by
  unfold cW
  by_cases h : j = cs.length
  · subst h; simp
  · rw [if_neg h]
    by_cases h2 : j < cs.length
    · rw [List.getElem?_append_left h2]
    · rw [List.getElem?_eq_none (by simp; omega), List.getElem?_eq_none (by omega)]
theorem news_cells {w : World} (zs : List Value) (t : TypeId) : ∀ j u, zs[j]? = some u → (w.alloc (.cells zs.toArray t)).cell? ((⟨w.heap.size, 0, none⟩ : Addr).add j) = some u := by
  intro j u h
  rw [Addr.add_lit, Nat.zero_add, World.cell?_alloc_at _ _ _ _ rfl]
  simpa using h
theorem pair_one {a b : Value} (ha : a.oneCell' = true) (hb : b.oneCell' = true) : ∀ u ∈ [a, b], u.oneCell' = true := by
  intro u hu
  simp at hu
  rcases hu with rfl | rfl <;> assumption
theorem own_lit {w : World} (k : IntKind) (zs : List Int) (t base n : Nat) (hn : n = zs.length) (hb : base ≤ w.heap.size) (hm : zs.length ≤ maxLen) : (w.alloc (.cells (zs.map (Value.int k)).toArray t)).ownsRow base t 1 (.slice (some ⟨w.heap.size, 0, none⟩) n n) zs.length (zs.map (Value.int k)) := by
  subst hn
  simpa using World.ownsRow_lit (w := w) (base := base) (e := t) (size := 1) (zs.map (Value.int k)).toArray zs.length hb hm (by simp)
end Go.Proofs.Ytkimnihdjeonpaa
