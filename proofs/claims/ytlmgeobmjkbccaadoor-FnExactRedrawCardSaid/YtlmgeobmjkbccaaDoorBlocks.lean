import Derived.Test.YtlmgeobmjkbccaaDoorFrame
namespace Go.Proofs.YtlmgeobmjkbccaaDoor
open Go.RowKit
theorem Ext.kept {W W' : World} {p : Nat} {o : Obj} (h : Ext W W') (hp : W.heap[p]? = some o) : W'.heap[p]? = some o := (h.heap (Array.getElem?_eq_some_iff.1 hp).1).trans hp
end Go.Proofs.YtlmgeobmjkbccaaDoor
