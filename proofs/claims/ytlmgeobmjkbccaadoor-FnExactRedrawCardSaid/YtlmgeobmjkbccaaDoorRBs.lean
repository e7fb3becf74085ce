import Derived.Test.YtlmgeobmjkbccaaDoorWri
namespace Go.Proofs.YtlmgeobmjkbccaaDoor
open Go.RowKit
def RB (w : World) (base : Nat) (v : Value) (L : List Int) : Prop := IntsAt w .u8 v L ∧ ∀ g, v.ownBlock = some g → base ≤ g ∧ g < w.heap.size
theorem RB.ext {w w' : World} {base : Nat} {v : Value} {L : List Int} (h : RB w base v L) (he : Ext w w') : RB w' base v L := ⟨h.1.ext he, fun g hg => ⟨(h.2 g hg).1, Nat.lt_of_lt_of_le (h.2 g hg).2 he.size⟩⟩
theorem RB.fr {S : Nat → Prop} {w w' : World} {base : Nat} {v : Value} {L : List Int} (h : RB w base v L) (hf : Fr S w w') (hS : ∀ g, v.ownBlock = some g → ¬ S g) : RB w' base v L := by
  refine ⟨?_, fun g hg => ⟨(h.2 g hg).1, Nat.lt_of_lt_of_le (h.2 g hg).2 hf.size⟩⟩
  obtain ⟨⟨ao, cap, rfl, hc, hx⟩, hl⟩ := h
  refine ⟨ao, cap, rfl, hc, fun hp => ?_⟩
  obtain ⟨b, off, rfl, hcell⟩ := hx hp
  refine ⟨b, off, rfl, fun j hj => ?_⟩
  rw [cell_sameW (hf.block b (hl b rfl).2 (hS b rfl))]
  exact hcell j hj
end Go.Proofs.YtlmgeobmjkbccaaDoor
