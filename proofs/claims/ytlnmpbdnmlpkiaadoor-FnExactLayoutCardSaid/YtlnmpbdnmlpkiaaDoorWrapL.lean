import Derived.Test.YtlnmpbdnmlpkiaaDoorWrapC
namespace Go.Proofs.YtlnmpbdnmlpkiaaDoor
open Go.RowKit

theorem infoClw : (Tryd.prog.info? 173).map (fun i => (i.zero, i.size, i.bytes)) = some (some (.agg #[.slice none 0 0, .int .i64 0]), 2, 32) := by kernel_rfl
theorem cls_take_succ (cs : List (List Int × Int)) (k : Nat) (h : k < cs.length) : cs.take (k + 1) = cs.take k ++ [(cR cs k, cW cs k)] := by
  rw [List.take_succ_eq_append_getElem h]
  congr 1
  simp [cR, cW, h]
theorem cls_none {W : World} {base : Nat} {v : Value} (h : W.ownsRow base 173 2 v 0 []) : OwnCls W base v [] [] :=
  ⟨rfl, ⟨[], h, fun j hj => by simp at hj⟩, fun j hj => by simp at hj, fun i j g _ hj => by simp at hj⟩
theorem owns_empty' (w : World) (base : Nat) (t : TypeId) (sz : Nat) (hb : base ≤ w.heap.size) : (w.alloc (.cells #[] t)).ownsRow base t sz (.slice (some ⟨w.heap.size, 0, none⟩) 0 0) 0 [] :=
  ⟨by simp, .inr ⟨w.heap.size, 0, #[], rfl, hb, heap_alloc_new w _, Nat.le_refl _, by unfold maxLen; omega, by simp, by simp⟩⟩
end Go.Proofs.YtlnmpbdnmlpkiaaDoor
