import Derived.Test.YtlmgeobmjkbccaaDoorWri
import Derived.Test.YtlmgeobmjkbccaaDoorFrame
import Derived.LaidMore
import Derived.Lib.LaidU8
import Derived.Deep.Strs
import Derived.Stop.Joined
namespace Go.Proofs.YtlmgeobmjkbccaaDoor
open Go.ChangeShapes Go.WideShapes Go.ChangeAt Go.RowKit Go.Deep
theorem ownP : ownKnob Tryd.prog.godebug = none := by kernel_rfl
theorem laidOutP : laidOutB Tryd.prog = true := by kernel_rfl
abbrev laidP : List (String × DataW Unit) := Rows.fnExactEraseRow.laid
theorem tPow : (Tryd.prog.globals[0]?).map (·.type) = some 72 := by kernel_rfl
theorem laidP_pow : (powName, (Lib.tabData .u64 Lib.pow10Tab : DataW Unit)) ∈ laidP := List.mem_cons_of_mem _ (List.mem_cons_of_mem _ List.mem_cons_self)
theorem pow_of_laid {W : World} (h : laidMetH Tryd.prog laidP W) : PowT W := by
  rw [MakeChecks.laidMetH_plain _ _ _ (by kernel_rfl)] at h
  obtain ⟨g, t, cs, fuel, p, hg, ht, hv, hd⟩ := Lib.laidMet.reads h laidP_pow
  obtain rfl := Option.some.inj (gPow.symm.trans hg)
  obtain rfl := Option.some.inj (tPow.symm.trans ht)
  unfold PowT Lib.TabIs
  rw [hv, ← Lib.cells_of_tab Tryd.underlying72 Tryd.underlying54 (by kernel_rfl) (by kernel_rfl) hd]
theorem pow_lo {W : World} (h : PowT W) : 0 < W.heap.size := by
  unfold PowT Lib.TabIs World.var? at h
  rw [gPow] at h
  simp only [Option.bind_some] at h
  by_cases hlt : 0 < W.heap.size
  · exact hlt
  · rw [Array.getElem?_eq_none (by omega)] at h
    simp at h
theorem door_metP (os : Os) (args : Array Value) : laidMetH Tryd.prog laidP ((World.doorLaid Tryd.prog 400 os).forCall (fun _ _ => 0) ⟨#[], args, []⟩).memory :=
  laidMetH_of_parts3 (fuel := 8) (laidMet_of_run' 8 (by kernel_rfl) (by kernel_rfl)) (by kernel_rfl) (by kernel_rfl)
end Go.Proofs.YtlmgeobmjkbccaaDoor
