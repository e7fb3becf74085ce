import Derived.Test.YtbieoijeilhadaaDoorProg
import Derived.Test.YtbieoijeilhadaaDoorUtf
namespace Go.Proofs.YtbieoijeilhadaaDoor
open Go.RowKit
def cellsOf (l : List Int) : Array Value := (l.map (Value.int .i64)).toArray
end Go.Proofs.YtbieoijeilhadaaDoor

namespace Go.Proofs.YtbieoijeilhadaaDoor
open Go.RowKit
def firsts : List Int := [768, 1155, 1425, 4352, 8203, 8400, 11904, 12353, 19968, 44032, 63744, 65024, 65056, 65072, 65280, 65504, 127744, 129280, 131072]
def lasts : List Int := [879, 1161, 1469, 4447, 8207, 8432, 12350, 19903, 42191, 55203, 64255, 65039, 65071, 65135, 65376, 65510, 128591, 129535, 262141]
def widths : List Int := [0, 0, 0, 2, 0, 0, 2, 2, 2, 2, 2, 0, 0, 2, 2, 2, 2, 2, 2]
def Laid (w : World) : Prop := ∀ m : Nat, m < 19 → w.cell? ⟨2, m * 3, none⟩ = some (.int .i32 (at0 firsts m)) ∧ w.cell? ⟨2, m * 3 + 1, none⟩ = some (.int .i32 (at0 lasts m)) ∧ w.cell? ⟨2, m * 3 + 2, none⟩ = some (.int .i64 (at0 widths m))
theorem Laid.pos {w : World} (h : Laid w) : 2 < w.heap.size := lt_of_cell (h 0 (by omega)).1
theorem Laid.below {w w' : World} (h : Laid w) (hb : Below w.heap.size w w') : Laid w' := fun m hm => by
  have p := h.pos
  obtain ⟨a, b, c⟩ := h m hm
  exact ⟨(hb.cell (p := ⟨2, m * 3, none⟩) p).trans a, (hb.cell (p := ⟨2, m * 3 + 1, none⟩) p).trans b, (hb.cell (p := ⟨2, m * 3 + 2, none⟩) p).trans c⟩
end Go.Proofs.YtbieoijeilhadaaDoor
