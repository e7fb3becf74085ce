import Derived.Test.YtlmgeobmjkbccaaDoorBaL
import Derived.Lib.TrimByte
namespace Go.Proofs.YtlmgeobmjkbccaaDoor
open Go.RowKit
theorem s2i (w : World) (s : ByteArray) : ∃ cap W', (convert 9 26 (.string s)).run Tryd.prog w = .ok (.slice (some ⟨w.heap.size, 0, none⟩) s.size cap) W' ∧ (∀ j u, ((baL s).map (Value.int .u8))[j]? = some u → W'.cell? ((⟨w.heap.size, 0, none⟩ : Addr).add j) = some u) ∧ Ext w W' := by
  have hr := run_bytes_of_string (P := Tryd.prog) w 9 26 5 s Tryd.underlying9 Tryd.underlying26 Tryd.underlying5
  refine ⟨_, _, hr, fun j u hj => ?_, (Ext.refl w).drew.alloc _⟩
  have hjl : j < s.data.size := by
    have := (List.getElem?_eq_some_iff.1 hj).1
    simp [baL] at this
    exact this
  rw [Addr.add_lit, Nat.zero_add]
  have hc := World.cell?_alloc_mark w.drew (bytesRow s (grownCap w s.size 0 5)) 5 ((bytesRow s (grownCap w s.size 0 5)).size, (bytesRow s (grownCap w s.size 0 5)).size + 1) j
  rw [bytesRow_at _ _ _ hjl] at hc
  refine Eq.trans hc ?_
  rw [← hj]
  simp only [baL, List.map_map, List.getElem?_map, Array.getElem?_toList]
  rw [Array.getElem?_eq_getElem hjl]
  rfl
end Go.Proofs.YtlmgeobmjkbccaaDoor
