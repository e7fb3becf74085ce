import Derived.Test.YtinfdhbnljnifaaGreatDoorSnapMark
import Derived.Test.YtinfdhbnljnifaaGreatDoorU8s
import Derived.Test.YtinfdhbnljnifaaGreatDoorBlocks
import Derived.Deep.SlicePairs
import Derived.Deep.Strs
import Derived.Lib.ItoaNum
import Derived.Lib.Join
namespace Go.Proofs.YtinfdhbnljnifaaGreatDoor
open Go.RowKit
theorem Fr.tr {S : Nat → Prop} {a b c : World} (h : Fr S a b) (k : Fr S b c) : Fr S a c :=
  ⟨k.os.trans h.os, k.tape.trans h.tape, k.output.trans h.output, Nat.le_trans h.size k.size, fun i hi hn => (k.block i (Nat.lt_of_lt_of_le hi h.size) hn).trans (h.block i hi hn)⟩
end Go.Proofs.YtinfdhbnljnifaaGreatDoor

namespace Go.Proofs.YtinfdhbnljnifaaGreatDoor
open Go.RowKit
theorem Fr.kept {S : Nat → Prop} {w w' : World} {p : Nat} {o : Obj} (h : Fr S w w') (hp : w.heap[p]? = some o) (hS : ¬ S p) : w'.heap[p]? = some o := (h.block p (Array.getElem?_eq_some_iff.1 hp).1 hS).trans hp
theorem lt_of_block {w : World} {p : Nat} {o : Obj} (h : w.heap[p]? = some o) : p < w.heap.size := (Array.getElem?_eq_some_iff.1 h).1
end Go.Proofs.YtinfdhbnljnifaaGreatDoor
