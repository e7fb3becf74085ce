import Derived.Test.YtbieoijeilhadaaDoorPiece
namespace Go.Proofs.YtbieoijeilhadaaDoor
open Go.RowKit
theorem cell_heap {w w' : World} {D o : Nat} (h : w'.heap[D]? = w.heap[D]?) : w'.cell? ⟨D, o, none⟩ = w.cell? ⟨D, o, none⟩ := by
  unfold World.cell?
  simp only [h]
theorem frozen_heap {w w' : World} {D o : Nat} (h : w'.heap[D]? = w.heap[D]?) : w'.frozen? ⟨D, o, none⟩ = w.frozen? ⟨D, o, none⟩ := by
  unfold World.frozen?
  simp only [h]
theorem RdAt.keep {w w1 w' : World} {D : Nat} {v : Value} {bs : List Int} {p p' : Nat} (h : RdAt w D v bs p) (h1 : RdAt w1 D v bs p') (hf : Fr (fun k => k = D) w w') (hD : w'.heap[D]? = w1.heap[D]?) : RdAt w' D v bs p' := by
  refine ⟨by rw [cell_heap hD]; exact h1.1, by rw [cell_heap hD]; exact h1.2.1, by rw [frozen_heap hD]; exact h1.2.2.1, ?_, h1.2.2.2.2.1, h.2.2.2.2.2⟩
  obtain ⟨ao, cap, e, hc, hx⟩ := h.2.2.2.1
  refine ⟨ao, cap, e, hc, fun hp => ?_⟩
  obtain ⟨b, off, e2, hcell⟩ := hx hp
  obtain ⟨b', off', n', c', e3, hne⟩ := h.2.2.2.2.2 hp
  rw [e, e2] at e3
  injection e3 with e4
  injection e4 with e5
  injection e5 with e6
  subst e6
  exact ⟨b, off, e2, fun j hj => by rw [cell_heap (hf.block b (lt_of_cell (hcell j hj)) hne)]; exact hcell j hj⟩
end Go.Proofs.YtbieoijeilhadaaDoor
