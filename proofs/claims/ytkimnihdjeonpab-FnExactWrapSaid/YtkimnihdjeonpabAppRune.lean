import Derived.Test.YtkimnihdjeonpabUtf
import Derived.Test.YtkimnihdjeonpabProg
namespace Go.Proofs.Ytkimnihdjeonpab
open Go.RowKit
theorem news_cells {w : World} (zs : List Value) (t : TypeId) : ∀ j u, zs[j]? = some u → (w.alloc (.cells zs.toArray t)).cell? ((⟨w.heap.size, 0, none⟩ : Addr).add j) = some u := by
  intro j u h
  rw [Addr.add_lit, Nat.zero_add, World.cell?_alloc_at _ _ _ _ rfl]
  simpa using h
end Go.Proofs.Ytkimnihdjeonpab
