import Derived.Test.YtbieoijeilhadaaDoorKR
import Derived.Test.YtbieoijeilhadaaDoorKysMark
import Derived.Deep.RegionLaw
import Derived.Deep.AppendLies
import Derived.Test.YtbieoijeilhadaaDoorShowable
namespace Go.Proofs.YtbieoijeilhadaaDoor
open Go.RowKit Go.Deep
theorem infoKey : (Tryd.prog.info? 67).map (fun i => (i.zero, i.size, i.bytes)) = some (some (.agg #[.int .i64 0, .slice none 0 0]), 2, 32) := by kernel_rfl
theorem OwnKys.mono {W : World} {base base' : Nat} {v : Value} {rs : List Value} {cs : List (List Int × Int)} (h : OwnKys W base v rs cs) (hb : base' ≤ base) : OwnKys W base' v rs cs := by
  obtain ⟨h0, ⟨ys, h1, h2⟩, h3, h4⟩ := h
  exact ⟨h0, ⟨ys, owns_mono h1 hb, h2⟩, fun j hj => owns_mono (h3 j hj) hb, h4⟩
end Go.Proofs.YtbieoijeilhadaaDoor

namespace Go.Proofs.YtbieoijeilhadaaDoor
open Go.RowKit Go.Deep
def DecK (w : World) (D base : Nat) (kv : Value) (rs : List Value) (ks : List (List Int × Int)) : Prop :=
  w.cell? ⟨D, 2, none⟩ = some kv ∧ w.frozen? ⟨D, 2, none⟩ = false ∧ OwnKys w base kv rs ks ∧ D < base
theorem news_two (w : World) (o : Obj) (u v : Value) (t : TypeId) : ∀ j x, [u, v][j]? = some x → ((w.alloc o).alloc (.cells #[u, v] t)).drew.cell? ((⟨w.heap.size + 1, 0, none⟩ : Addr).add j) = some x := by
  have := news_cells (w := w.alloc o) [u, v] t
  have h2 : (w.alloc o).heap.size = w.heap.size + 1 := by simp
  rw [h2] at this
  exact this
end Go.Proofs.YtbieoijeilhadaaDoor
