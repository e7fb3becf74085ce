import Derived.Test.YtinfdhbnljnifaaGreatDoorSnapMark
import Derived.Test.YtinfdhbnljnifaaGreatDoorFsP
import Derived.Test.YtinfdhbnljnifaaGreatDoorRowO
import Derived.Test.YtinfdhbnljnifaaGreatDoorSpecClean
namespace Go.Proofs.YtinfdhbnljnifaaGreatDoor
open Go.RowKit
def KysAt (w : World) (v : Value) (cs : List (List Int × Int)) : Prop :=
  ∃ (rs : List Value) (ao : Option Addr) (cap : Nat), v = .slice ao cs.length cap ∧ cs.length ≤ cap ∧ (∀ j, j < cs.length → IntsAt w .i32 (rV rs j) (cR cs j)) ∧
    (0 < cs.length → ∃ b off, ao = some ⟨b, off, none⟩ ∧ ∀ j, j < cs.length → w.cell? ⟨b, off + j * 2 + 1, none⟩ = some (rV rs j) ∧ w.cell? ⟨b, off + j * 2, none⟩ = some (.int .i64 (cW cs j)))
theorem KysAt.ext {w w' : World} {v : Value} {cs : List (List Int × Int)} (h : KysAt w v cs) (he : Ext w w') : KysAt w' v cs := by
  obtain ⟨rs, ao, cap, e, hc, hr, hx⟩ := h
  exact ⟨rs, ao, cap, e, hc, fun j hj => (hr j hj).ext he, fun hp => by
    obtain ⟨b, off, e2, hcell⟩ := hx hp
    exact ⟨b, off, e2, fun j hj => ⟨he.cell (hcell j hj).1, he.cell (hcell j hj).2⟩⟩⟩
def OwnKys (w : World) (base : Nat) (v : Value) (rs : List Value) (cs : List (List Int × Int)) : Prop :=
  rs.length = cs.length ∧ (∃ ys, w.ownsRow base 95 2 v cs.length ys ∧ ∀ j, j < cs.length → ys[j * 2 + 1]? = some (rV rs j) ∧ ys[j * 2]? = some (.int .i64 (cW cs j))) ∧
  (∀ j, j < cs.length → w.ownsRow base 21 1 (rV rs j) (cR cs j).length ((cR cs j).map (Value.int .i32))) ∧
  (∀ i j g, i < j → j < cs.length → (rV rs i).ownBlock = some g → (rV rs j).ownBlock ≠ some g)
theorem OwnKys.ext {w w' : World} {base : Nat} {v : Value} {rs : List Value} {cs : List (List Int × Int)} (h : OwnKys w base v rs cs) (he : Ext w w') : OwnKys w' base v rs cs := by
  obtain ⟨h0, ⟨ys, h1, h2⟩, h3, h4⟩ := h
  exact ⟨h0, ⟨ys, he.owns h1, h2⟩, fun j hj => he.owns (h3 j hj), h4⟩
theorem OwnKys.push {W W' : World} {base : Nat} {v v' r : Value} {rs : List Value} {cs : List (List Int × Int)} {xs : List Int} {d : Int} {ys : List Value}
    (h : OwnKys W base v rs cs) (hy : W.ownsRow base 95 2 v cs.length ys) (hyy : ∀ j, j < cs.length → ys[j * 2 + 1]? = some (rV rs j) ∧ ys[j * 2]? = some (.int .i64 (cW cs j)))
    (hr : W.ownsRow base 21 1 r xs.length (xs.map (Value.int .i32))) (hfr : ∀ j g, j < cs.length → (rV rs j).ownBlock = some g → r.ownBlock ≠ some g)
    (ho : W'.ownsRow base 95 2 v' (cs.length + 1) (ys ++ [.int .i64 d, r])) (hg : W.grownBy W' v.ownBlock) : OwnKys W' base v' (rs ++ [r]) (cs ++ [(xs, d)]) := by
  obtain ⟨h0, _, h3, h4⟩ := h
  have hyl := hy.1
  have keep : ∀ (u : Value) (m : Nat) (zs : List Value), W.ownsRow base 21 1 u m zs → W'.ownsRow base 21 1 u m zs := fun u m zs hu =>
    owns_same hu (fun g hgu => hg.block g (hu.lt g hgu).2 (fun e => owns_apart hu hy (by decide) hgu e.symm))
  refine ⟨by simp [h0], ⟨_, by simpa using ho, fun j hj => ?_⟩, fun j hj => ?_, fun i j g hij hj hk => ?_⟩
  · simp at hj
    by_cases e : j = cs.length
    · subst e
      rw [← h0, rV_last, h0, cW_push, if_pos rfl]
      constructor
      · rw [List.getElem?_append_right (by omega)]; simp [hyl]
      · rw [List.getElem?_append_right (by omega)]; simp [hyl]
    · rw [rV_push rs r j (by omega), cW_push, if_neg e, List.getElem?_append_left (by omega), List.getElem?_append_left (by omega)]
      exact hyy j (by omega)
  · simp at hj
    rw [cR_push]
    by_cases e : j = cs.length
    · subst e
      rw [← h0, rV_last, h0, if_pos rfl]
      exact keep _ _ _ hr
    · rw [rV_push rs r j (by omega), if_neg e]
      exact keep _ _ _ (h3 j (by omega))
  · simp at hj
    rw [rV_push rs r i (by omega)] at hk
    by_cases e : j = cs.length
    · subst e
      rw [← h0, rV_last]
      exact hfr i g (by omega) hk
    · rw [rV_push rs r j (by omega)]
      exact h4 i j g hij (by omega) hk
theorem OwnKys.fr {S : Nat → Prop} {w w' : World} {base : Nat} {v : Value} {rs : List Value} {cs : List (List Int × Int)} (h : OwnKys w base v rs cs) (hf : Fr S w w') (hS : ∀ g, Foot v rs cs.length g → ¬ S g) : OwnKys w' base v rs cs := by
  obtain ⟨h0, ⟨ys, h1, h2⟩, h3, h4⟩ := h
  exact ⟨h0, ⟨ys, hf.owns h1 (fun g hg => hS g (.inl hg)), h2⟩, fun j hj => hf.owns (h3 j hj) (fun g hg => hS g (.inr ⟨j, hj, hg⟩)), h4⟩
theorem OwnKys.foot {w : World} {base : Nat} {v : Value} {rs : List Value} {cs : List (List Int × Int)} (h : OwnKys w base v rs cs) {g : Nat} (hg : Foot v rs cs.length g) : base ≤ g ∧ g < w.heap.size := by
  obtain ⟨h0, ⟨ys, h1, h2⟩, h3, h4⟩ := h
  rcases hg with hg | ⟨j, hj, hg⟩
  · exact h1.lt g hg
  · exact (h3 j hj).lt g hg
theorem OwnKys.mark {W W1 : World} {base g j cap : Nat} {rs : List Value} {cs : List (List Int × Int)} {zs : List Int} {d : Int}
    (h : OwnKys W base (.slice (some ⟨g, 0, none⟩) cs.length cap) rs cs) (hj : j < cs.length) (hz : zs.length = (cR cs j).length)
    (ho : W1.ownsRow base 21 1 (rV rs j) (cR cs j).length (zs.map (Value.int .i32))) (hg : (W.setCell ⟨g, j * 2, none⟩ (.int .i64 d)).grownBy W1 (rV rs j).ownBlock) :
    OwnKys W1 base (.slice (some ⟨g, 0, none⟩) cs.length cap) rs (cs.set j (zs, d)) := by
  obtain ⟨h0, ⟨ys, hy, hyy⟩, h3, h4⟩ := h
  have hyl := hy.1
  have ng : ∀ (u : Value) (n : Nat) (zs : List Value), W.ownsRow base 21 1 u n zs → u.ownBlock ≠ some g := fun u n zs hu e => owns_apart hu hy (by decide) e rfl
  have s0 := (hy.stored (j * 2) (.int .i64 d)).1
  have s1 : W1.ownsRow base 95 2 (.slice (some ⟨g, 0, none⟩) cs.length cap) cs.length (ys.set (j * 2) (.int .i64 d)) :=
    owns_same s0 (fun k hk => hg.block k (s0.lt k hk).2 (fun e => owns_apart hy (h3 j hj) (by decide) hk e.symm))
  have old : ∀ i, i < cs.length → i ≠ j → W1.ownsRow base 21 1 (rV rs i) (cR cs i).length ((cR cs i).map (Value.int .i32)) := fun i hi hne => by
    have h5 := owns_setCell (a := ⟨g, j * 2, none⟩) (h3 i hi) (ng _ _ _ (h3 i hi)) (.int .i64 d)
    exact owns_same h5 (fun k hk => hg.block k (h5.lt k hk).2 (fun e => by
      rcases Nat.lt_or_gt_of_ne hne with h6 | h6
      · exact h4 i j k h6 hj hk e.symm
      · exact h4 j i k h6 hi e.symm hk))
  refine ⟨by simp [h0], ⟨ys.set (j * 2) (.int .i64 d), by simpa using s1, fun i hi => ?_⟩, fun i hi => ?_, fun i j' k hij hj' hk => h4 i j' k hij (by simpa using hj') hk⟩
  · simp at hi
    rw [cW_set cs j _ i hj]
    by_cases e : i = j
    · subst e
      rw [if_pos rfl]
      exact ⟨by rw [List.getElem?_set_ne (by omega)]; exact (hyy i hi).1, List.getElem?_set_self (by omega)⟩
    · rw [if_neg e, List.getElem?_set_ne (by omega), List.getElem?_set_ne (by omega)]
      exact hyy i hi
  · simp at hi
    rw [cR_set cs j _ i hj]
    by_cases e : i = j
    · subst e
      rw [if_pos rfl]
      simpa [hz] using ho
    · rw [if_neg e]
      exact old i hi e
end Go.Proofs.YtinfdhbnljnifaaGreatDoor

namespace Go.Proofs.YtinfdhbnljnifaaGreatDoor
open Go.RowKit
theorem OwnKys.down {w : World} {base base' : Nat} {v : Value} {rs : List Value} {cs : List (List Int × Int)} (h : OwnKys w base v rs cs) (hb : base' ≤ base) : OwnKys w base' v rs cs := by
  obtain ⟨h0, ⟨ys, h1, h2⟩, h3, h4⟩ := h
  exact ⟨h0, ⟨ys, owns_mono h1 hb, h2⟩, fun j hj => owns_mono (h3 j hj) hb, h4⟩
theorem OwnKys.slice {w : World} {base : Nat} {v : Value} {rs : List Value} {cs : List (List Int × Int)} (h : OwnKys w base v rs cs) : ∃ a c, v = .slice a cs.length c := by
  obtain ⟨_, ⟨ys, h1, _⟩, _⟩ := h
  rcases h1.2 with ⟨e, h0⟩ | ⟨g, cap9, cur, e, _⟩
  · exact ⟨none, 0, by rw [h0]; exact e⟩
  · exact ⟨_, _, e⟩
end Go.Proofs.YtinfdhbnljnifaaGreatDoor
