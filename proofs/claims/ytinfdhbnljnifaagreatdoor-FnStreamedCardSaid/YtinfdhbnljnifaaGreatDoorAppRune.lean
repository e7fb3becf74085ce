import Derived.Test.YtinfdhbnljnifaaGreatDoorRsz
import Derived.Test.YtinfdhbnljnifaaGreatDoorProg
namespace Go.Proofs.YtinfdhbnljnifaaGreatDoor
open Go.RowKit
def encR (r : Int) : List Int := if Utf8.valid r = true then encL r else [239, 191, 189]
theorem encR_len (r : Int) : (encR r).length ≤ 4 := by
  unfold encR encL
  (repeat' split) <;> simp
theorem news_cells {w : World} (zs : List Value) (t : TypeId) : ∀ j u, zs[j]? = some u → (w.alloc (.cells zs.toArray t)).cell? ((⟨w.heap.size, 0, none⟩ : Addr).add j) = some u := by
  intro j u h
  rw [Addr.add_lit, Nat.zero_add, World.cell?_alloc_at _ _ _ _ rfl]
  simpa using h
theorem infoByteA : (Tryz.prog.info? 5).map (fun i => (i.zero, i.size, i.bytes)) = some (some (.int .u8 0), 1, 1) := by kernel_rfl
end Go.Proofs.YtinfdhbnljnifaaGreatDoor
