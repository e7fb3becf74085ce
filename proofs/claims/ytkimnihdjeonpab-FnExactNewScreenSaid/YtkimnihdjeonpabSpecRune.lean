import Derived.Test.YtkimnihdjeonpabUtf
import Derived.Test.YtkimnihdjeonpabProg
namespace Go.Proofs.Ytkimnihdjeonpab
open Go.RowKit
theorem new_ints {w : World} (k : IntKind) (zs : List Int) (t n : Nat) (hn : n = zs.length) : IntsAt (w.alloc (.cells (zs.map (Value.int k)).toArray t)) k (.slice (some ⟨w.heap.size, 0, none⟩) n n) zs := by
  subst hn
  refine ⟨_, _, rfl, Nat.le_refl _, fun _ => ⟨_, 0, rfl, fun j hj => ?_⟩⟩
  rw [World.cell?_alloc_at _ _ _ _ rfl]
  simp [at0, hj]
theorem ret_str {a b : ByteArray} (h : a = b) : Ending.returned (.string a) = .returned (.string b) := by rw [h]
end Go.Proofs.Ytkimnihdjeonpab
