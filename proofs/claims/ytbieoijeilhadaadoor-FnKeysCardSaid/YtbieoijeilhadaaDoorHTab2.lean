import Derived.Test.YtbieoijeilhadaaDoorTabs2
import Derived.Test.YtbieoijeilhadaaDoorRows
import Derived.LaidMore
import Derived.Lib.LaidU8
import Derived.Deep.Strs
import Derived.Stop.Joined
import Derived.PinnedBridge
namespace Go.Proofs.YtbieoijeilhadaaDoor
open Go.ChangeShapes Go.WideShapes Go.ChangeAt Go.RowKit Go.Deep
abbrev laidH2 : List (String × DataW Unit) := Rows.fnExactReadKeysRow.laid
abbrev firstName2 : String := Rows.fnExactReadKeysRow.named.headD ""
abbrev accName2 : String := (Rows.fnExactReadKeysRow.named.drop 1).headD ""
theorem gFirst2 : Tryd.prog.globalNamed firstName2 = some 0 := by kernel_rfl
theorem tFirst2 : (Tryd.prog.globals[0]?).map (·.type) = some 144 := by kernel_rfl
theorem gAcc2 : Tryd.prog.globalNamed accName2 = some 1 := by kernel_rfl
theorem tAcc2 : (Tryd.prog.globals[1]?).map (·.type) = some 147 := by kernel_rfl
theorem inR1 : (accName2, (Lib.acceptData : DataW Unit)) ∈ laidH2 := List.mem_cons_self
theorem inR2 : (firstName2, (Lib.firstData : DataW Unit)) ∈ laidH2 := by
  rw [← Pinned.utf8First_eq]
  exact List.mem_cons_of_mem _ List.mem_cons_self
theorem tabs2_of_reads {W : World} (h3 : Lib.VarReads Tryd.prog W firstName2 Lib.firstData) (h4 : Lib.VarReads Tryd.prog W accName2 Lib.acceptData) : Lib.Utf8Tabs 0 1 W := by
  have c5 : Tryd.prog.cellsOf 5 = 1 := by kernel_rfl
  have c2 : Tryd.prog.cellsOf 146 = 2 := by kernel_rfl
  refine ⟨fun c hc => ?_, fun i hi => ?_⟩
  · obtain ⟨g, t, cs, fuel, p, hg, hty, hvar, hd⟩ := h3
    obtain rfl := Option.some.inj (gFirst2.symm.trans hg)
    obtain rfl := Option.some.inj (tFirst2.symm.trans hty)
    have hcs := Lib.cells_of_tab Tryd.underlying144 Tryd.underlying5 c5 (by kernel_rfl) hd
    have := World.var?_cell hg hvar c
    rw [this, ← Array.getElem?_toList, hcs]
    simp [Lib.firstTab, hc]
  · obtain ⟨g, t, cs, fuel, p, hg, hty, hvar, hd⟩ := h4
    obtain rfl := Option.some.inj (gAcc2.symm.trans hg)
    obtain rfl := Option.some.inj (tAcc2.symm.trans hty)
    obtain ⟨fuel', d, q, hdi, he⟩ := Lib.array_elem Tryd.underlying147 hd i hi
    simp only [List.getElem?_map, List.getElem?_range hi, Option.map_some, Option.some.injEq] at hdi
    subst hdi
    rw [c2] at he
    have hcs := Lib.ints_of_struct Tryd.underlying146 (fun j f hj => by
      match j, hj with
      | 0, hj => simp at hj; subst hj; exact ⟨Tryd.underlying5, rfl, c5⟩
      | 1, hj => simp at hj; subst hj; exact ⟨Tryd.underlying5, rfl, c5⟩
      | j + 2, hj => simp at hj) (by rw [c2]; rfl) he
    have e0 := congrArg (·[0]?) hcs
    have e1 := congrArg (·[1]?) hcs
    simp only [List.getElem?_take, List.getElem?_drop] at e0 e1
    constructor
    · rw [World.var?_cell hg hvar (2 * i), ← Array.getElem?_toList]
      simpa [Nat.mul_comm] using e0
    · rw [World.var?_cell hg hvar (2 * i + 1), ← Array.getElem?_toList]
      simpa [Nat.mul_comm] using e1
theorem tabs2_of_laid {W : World} (h : laidMetH Tryd.prog laidH2 W) : Tabs2 W := by
  rw [MakeChecks.laidMetH_plain _ _ _ (by kernel_rfl)] at h
  exact tabs2_of_reads (Lib.laidMet.reads h inR2) (Lib.laidMet.reads h inR1)
end Go.Proofs.YtbieoijeilhadaaDoor
