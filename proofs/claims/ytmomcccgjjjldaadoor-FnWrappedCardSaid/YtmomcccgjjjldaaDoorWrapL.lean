import Derived.Test.YtmomcccgjjjldaaDoorWrapC
namespace Go.Proofs.YtmomcccgjjjldaaDoor
open Go.RowKit
theorem infoClw : (Tryd.prog.info? 32).map (fun i => (i.zero, i.size, i.bytes)) = some (some (.agg #[.slice none 0 0, .int .i64 0]), 2, 32) := by kernel_rfl
theorem cls_take_succ (cs : List (List Int × Int)) (k : Nat) (h : k < cs.length) : cs.take (k + 1) = cs.take k ++ [(cR cs k, cW cs k)] := by
  rw [List.take_succ_eq_append_getElem h]
  congr 1
  simp [cR, cW, h]
theorem cls_none {W : World} {base : Nat} {v : Value} (h : W.ownsRow base 32 2 v 0 []) : OwnCls W base v [] [] :=
  ⟨rfl, ⟨[], h, fun j hj => by simp at hj⟩, fun j hj => by simp at hj, fun i j g _ hj => by simp at hj⟩
end Go.Proofs.YtmomcccgjjjldaaDoor
