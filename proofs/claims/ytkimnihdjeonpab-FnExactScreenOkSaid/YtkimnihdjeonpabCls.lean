import Derived.Test.YtkimnihdjeonpabBase
import Derived.Test.YtkimnihdjeonpabProg
import Derived.Deep.RegionHeld3
namespace Go.Proofs.Ytkimnihdjeonpab
open Go.RowKit
def rV (rs : List Value) (j : Nat) : Value := rs[j]?.getD (.slice none 0 0)
def cR (cs : List (List Int × Int)) (j : Nat) : List Int := (cs[j]?.getD ([], 0)).1
def cW (cs : List (List Int × Int)) (j : Nat) : Int := (cs[j]?.getD ([], 0)).2
def ClsAt (w : World) (v : Value) (cs : List (List Int × Int)) : Prop :=
  ∃ (rs : List Value) (ao : Option Addr) (cap : Nat), v = .slice ao cs.length cap ∧ cs.length ≤ cap ∧ (∀ j, j < cs.length → IntsAt w .i32 (rV rs j) (cR cs j)) ∧
    (0 < cs.length → ∃ b off, ao = some ⟨b, off, none⟩ ∧ ∀ j, j < cs.length → w.cell? ⟨b, off + j * 2, none⟩ = some (rV rs j) ∧ w.cell? ⟨b, off + j * 2 + 1, none⟩ = some (.int .i64 (cW cs j)))
theorem ClsAt.ext {w w' : World} {v : Value} {cs : List (List Int × Int)} (h : ClsAt w v cs) (he : Ext w w') : ClsAt w' v cs := by
  obtain ⟨rs, ao, cap, e, hc, hr, hx⟩ := h
  exact ⟨rs, ao, cap, e, hc, fun j hj => (hr j hj).ext he, fun hp => by
    obtain ⟨b, off, e2, hcell⟩ := hx hp
    exact ⟨b, off, e2, fun j hj => ⟨he.cell (hcell j hj).1, he.cell (hcell j hj).2⟩⟩⟩
theorem rV_push (rs : List Value) (r : Value) (i : Nat) (h : i < rs.length) : rV (rs ++ [r]) i = rV rs i := by
  unfold rV; rw [List.getElem?_append_left h]
theorem rV_last (rs : List Value) (r : Value) : rV (rs ++ [r]) rs.length = r := by simp [rV]
def OwnCls (w : World) (base : Nat) (v : Value) (rs : List Value) (cs : List (List Int × Int)) : Prop :=
  rs.length = cs.length ∧ (∃ ys, w.ownsRow base 57 2 v cs.length ys ∧ ∀ j, j < cs.length → ys[j * 2]? = some (rV rs j) ∧ ys[j * 2 + 1]? = some (.int .i64 (cW cs j))) ∧
  (∀ j, j < cs.length → w.ownsRow base 21 1 (rV rs j) (cR cs j).length ((cR cs j).map (Value.int .i32))) ∧
  (∀ i j g, i < j → j < cs.length → (rV rs i).ownBlock = some g → (rV rs j).ownBlock ≠ some g)
theorem OwnCls.ext {w w' : World} {base : Nat} {v : Value} {rs : List Value} {cs : List (List Int × Int)} (h : OwnCls w base v rs cs) (he : Ext w w') : OwnCls w' base v rs cs := by
  obtain ⟨h0, ⟨ys, h1, h2⟩, h3, h4⟩ := h
  exact ⟨h0, ⟨ys, he.owns h1, h2⟩, fun j hj => he.owns (h3 j hj), h4⟩
def PartCls (w : World) (base : Nat) (v : Value) (n : Nat) (rs : List Value) (cs : List (List Int × Int)) (j : Nat) : Prop :=
  rs.length = j ∧ (∃ ys, w.ownsRow base 57 2 v n ys ∧ ∀ i, i < j → ys[i * 2]? = some (rV rs i) ∧ ys[i * 2 + 1]? = some (.int .i64 (cW cs i))) ∧
  (∀ i, i < j → w.ownsRow (base + 1) 21 1 (rV rs i) (cR cs i).length ((cR cs i).map (Value.int .i32))) ∧
  (∀ i j' g, i < j' → j' < j → (rV rs i).ownBlock = some g → (rV rs j').ownBlock ≠ some g)
theorem PartCls.ext {w w' : World} {base : Nat} {v : Value} {n : Nat} {rs : List Value} {cs : List (List Int × Int)} {j : Nat} (h : PartCls w base v n rs cs j) (he : Ext w w') : PartCls w' base v n rs cs j := by
  obtain ⟨h0, ⟨ys, h1, h2⟩, h3, h4⟩ := h
  exact ⟨h0, ⟨ys, he.owns h1, h2⟩, fun i hi => he.owns (h3 i hi), h4⟩
theorem PartCls.step {w : World} {g n cap : Nat} {rs : List Value} {cs : List (List Int × Int)} {j H : Nat} {r : Value} (h : PartCls w g (.slice (some ⟨g, 0, none⟩) n cap) n rs cs j) (hj : j < n)
    (hr : w.ownsRow H 21 1 r (cR cs j).length ((cR cs j).map (Value.int .i32))) (hH : g < H) (hlt : ∀ i k, i < j → (rV rs i).ownBlock = some k → k < H) :
    PartCls ((w.setCell ⟨g, j * 2, none⟩ r).setCell ⟨g, j * 2 + 1, none⟩ (.int .i64 (cW cs j))) g (.slice (some ⟨g, 0, none⟩) n cap) n (rs ++ [r]) cs (j + 1) := by
  obtain ⟨h0, ⟨ys, h1, h2⟩, h3, h4⟩ := h
  have s1 := (h1.stored (j * 2) r).1
  have s2 := (s1.stored (j * 2 + 1) (.int .i64 (cW cs j))).1
  have hyl := h1.1
  have keep : ∀ (v : Value) (m : Nat) (zs : List Value), v.ownBlock ≠ some g → w.ownsRow (g + 1) 21 1 v m zs → ((w.setCell ⟨g, j * 2, none⟩ r).setCell ⟨g, j * 2 + 1, none⟩ (.int .i64 (cW cs j))).ownsRow (g + 1) 21 1 v m zs :=
    fun v m zs hv ho => owns_setCell (owns_setCell ho hv _) hv _
  refine ⟨by simp [h0], ⟨_, s2, fun i hi => ?_⟩, fun i hi => ?_, fun i j' k hij hj' hk => ?_⟩
  · by_cases e : i = j
    · subst e
      rw [← h0, rV_last, h0]
      constructor
      · rw [List.getElem?_set_ne (by omega), List.getElem?_set_self (by omega)]
      · rw [List.getElem?_set_self (by simp; omega)]
    · rw [rV_push rs r i (by omega), List.getElem?_set_ne (by omega), List.getElem?_set_ne (by omega), List.getElem?_set_ne (by omega), List.getElem?_set_ne (by omega)]
      exact h2 i (by omega)
  · by_cases e : i = j
    · subst e
      rw [← h0, rV_last, h0]
      exact keep _ _ _ (fun hb => by have := (hr.lt g hb).1; omega) (owns_mono hr (by omega))
    · rw [rV_push rs r i (by omega)]
      have := h3 i (by omega)
      exact keep _ _ _ (fun hb => by have := (this.lt g hb).1; omega) this
  · rw [rV_push rs r i (by omega)] at hk
    by_cases e : j' = j
    · subst e
      rw [← h0, rV_last]
      intro hb
      have a := (hr.lt k hb).1
      have b := hlt i k hij hk
      omega
    · rw [rV_push rs r j' (by omega)]
      exact h4 i j' k hij (by omega) hk
theorem PartCls.done {w : World} {base : Nat} {v : Value} {rs : List Value} {cs : List (List Int × Int)} (h : PartCls w base v cs.length rs cs cs.length) : OwnCls w base v rs cs := by
  obtain ⟨h0, h1, h3, h4⟩ := h
  exact ⟨h0, h1, fun j hj => owns_mono (h3 j hj) (by omega), h4⟩
end Go.Proofs.Ytkimnihdjeonpab
