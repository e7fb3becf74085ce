import Derived.Test.YtbieoijeilhadaaDoorKys
import Derived.Deep.RegionLaw
import Derived.Deep.DeepCutAuto
import Derived.Deep.RegionHeld3
import Derived.Test.YtbieoijeilhadaaDoorEdO
import Derived.Test.YtbieoijeilhadaaDoorEdQ0
import Derived.Maps.Own
import Derived.Test.YtbieoijeilhadaaDoorBlocks
import Derived.Test.YtbieoijeilhadaaDoorGap
import Derived.Test.YtbieoijeilhadaaDoorItemOk
import Derived.Deep.CutBlock
import Derived.Test.YtbieoijeilhadaaDoorCells
import Derived.Test.YtbieoijeilhadaaDoorProg
import Derived.Deep.SlicePairs
import Derived.Deep.Strs
import Derived.Test.YtbieoijeilhadaaDoorTabs
import Derived.Test.YtbieoijeilhadaaDoorRows
import Derived.LaidMore
import Derived.Lib.LaidU8
import Derived.Stop.Joined
import Derived.PinnedBridge
namespace Go.Proofs.YtbieoijeilhadaaDoor
open Go.ChangeShapes Go.WideShapes Go.ChangeAt Go.RowKit Go.Deep
theorem lnAt_un {w : World} {v : Value} {n : Nat} {tx hf : Nat → ByteArray} (h : Row2At w v n (fun j => .string (tx j)) (fun j => .string (hf j))) : LnAt w v (unL tx hf n) := by
  unfold LnAt
  rw [unL_len]
  obtain ⟨ao, cap, e, hc, hx⟩ := h
  refine ⟨ao, cap, e, hc, fun hp => ?_⟩
  obtain ⟨b, off, e2, hcell⟩ := hx hp
  refine ⟨b, off, e2, fun j hj => ?_⟩
  show w.cell? _ = some (.string (lnT (unL tx hf n) j)) ∧ w.cell? _ = some (.string (lnH (unL tx hf n) j))
  rw [lnT_un tx hf hj, lnH_un tx hf hj]
  exact hcell j hj
def edA (a b c : ByteArray) (un : List (ByteArray × ByteArray)) (kd : Int) (rs : List Int) : LD := @ite _ (LineP a b c un.length (lnT un) (lnH un)) (lineD a b c un.length (lnT un) (lnH un)) (edF a b c un kd rs) ⟨a, b, c, un, 0⟩
theorem specEdit_all (a b c : ByteArray) (v : Value) (n : Nat) (tx hf : Nat → ByteArray) (kd : Int) (rv : Value) (rs : List Int) (w : World) (hv : Row2At w v n (fun j => .string (tx j)) (fun j => .string (hf j))) (ha : a.size ≤ 1048576) (hb : b.size ≤ 1048576) (hc : c.size ≤ 1048576) (hn : n ≤ 1048576) (hx : ∀ j, j < n → (tx j).size ≤ 1048576 ∧ (hf j).size ≤ 1048576) (hr : IntsAt w .i32 rv rs) (iR : I32s rs) :
    Calls Tryd.prog 111 #[.agg #[.string a, .string b, .string c, v], .agg #[.int .i64 kd, rv]] w fun e w' => LnO w' w.heap.size (edA a b c (unL tx hf n) kd rs) e ∧ Ext w w' := by
  have hu := lnAt_un hv
  have hx2 : ∀ j, j < (unL tx hf n).length → (lnT (unL tx hf n) j).size ≤ 1048576 ∧ (lnH (unL tx hf n) j).size ≤ 1048576 := by
    rw [unL_len]
    intro j hj
    rw [lnT_un tx hf hj, lnH_un tx hf hj]
    exact hx j hj
  obtain ⟨ra, rc, rfl, _⟩ := id hr
  unfold edA
  split
  · rename_i h
    exact specEdit_yes a b c v _ ra rs.length rc w hu ha hb hc hx2 kd rs hr iR h
  · rename_i h
    exact specEdit_no a b c v _ ra rs.length rc w hu ha hb hc (by rw [unL_len]; exact hn) hx2 kd h
end Go.Proofs.YtbieoijeilhadaaDoor
