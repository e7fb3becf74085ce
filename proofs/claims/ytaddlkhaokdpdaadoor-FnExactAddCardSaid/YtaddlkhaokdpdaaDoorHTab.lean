import Derived.Test.YtaddlkhaokdpdaaDoorTabs
import Derived.Test.YtaddlkhaokdpdaaDoorFrame
import Derived.Test.YtaddlkhaokdpdaaDoorRows
import Derived.LaidMore
import Derived.Lib.LaidU8
import Derived.Deep.Strs
import Derived.Stop.Joined
import Derived.PinnedBridge
namespace Go.Proofs.YtaddlkhaokdpdaaDoor
open Go.ChangeShapes Go.WideShapes Go.ChangeAt Go.RowKit Go.Deep
theorem ownH : ownKnob Tryd.prog.godebug = none := by kernel_rfl
theorem laidOutH : laidOutB Tryd.prog = true := by kernel_rfl
abbrev laidH : List (String × DataW Unit) := Rows.fnExactHistoryOkRow.laid
abbrev wideName : String := Rows.fnExactHistoryOkRow.named.headD ""
abbrev firstName : String := (Rows.fnExactHistoryOkRow.named.drop 1).headD ""
abbrev accName : String := (Rows.fnExactHistoryOkRow.named.drop 2).headD ""
theorem gWide : Tryd.prog.globalNamed wideName = some 0 := by kernel_rfl
theorem tWide : (Tryd.prog.globals[0]?).map (·.type) = some 95 := by kernel_rfl
theorem gFirst : Tryd.prog.globalNamed firstName = some 1 := by kernel_rfl
theorem tFirst : (Tryd.prog.globals[1]?).map (·.type) = some 97 := by kernel_rfl
theorem gAcc : Tryd.prog.globalNamed accName = some 2 := by kernel_rfl
theorem tAcc : (Tryd.prog.globals[2]?).map (·.type) = some 100 := by kernel_rfl
def wRowD {H : Type} (m : Nat) : DataW H := .agg [.lit (.int .i32 (at0 firsts m)), .lit (.int .i32 (at0 lasts m)), .lit (.int .i64 (at0 widths m))]
def wTabD {H : Type} : DataW H := .agg ((List.range 19).map wRowD)
theorem inH1 : (accName, (Lib.acceptData : DataW Unit)) ∈ laidH := List.mem_cons_self
theorem inH2 : (wideName, (wTabD : DataW Unit)) ∈ laidH := List.mem_cons_of_mem _ List.mem_cons_self
theorem inH3 : (firstName, (Lib.firstData : DataW Unit)) ∈ laidH := by
  rw [← Pinned.utf8First_eq]
  exact List.mem_cons_of_mem _ (List.mem_cons_of_mem _ List.mem_cons_self)
theorem wide_of_reads {W : World} (h : Lib.VarReads Tryd.prog W wideName wTabD) : Laid W := by
  obtain ⟨g0, t0, cs0, f0, p0, hg0, ht0, hv0, hd0⟩ := h
  obtain rfl := Option.some.inj (gWide.symm.trans hg0)
  obtain rfl := Option.some.inj (tWide.symm.trans ht0)
  have c36 : Tryd.prog.cellsOf 94 = 3 := by kernel_rfl
  have c21 : Tryd.prog.cellsOf 21 = 1 := by kernel_rfl
  have c3 : Tryd.prog.cellsOf 3 = 1 := by kernel_rfl
  obtain ⟨xs, m1, rfl, hx1, hlen, hn, hel⟩ := DataW.trod_array Tryd.underlying95 hd0
  rw [wTabD] at hx1
  simp only [Prod.mk.injEq, DataW.agg.injEq] at hx1
  have hx := hx1.1
  intro m hm
  have hrow := hel m hm
  have hxm : m < xs.length := by omega
  rw [List.getElem?_eq_getElem hxm, c36] at hrow
  have hfst : (xs[m]).1 = wRowD m := by
    have e1 : (xs.map (·.1))[m]? = some (wRowD m) := by rw [← hx]; simp [hm]
    simpa [hxm] using e1
  obtain ⟨y0, y1, y2, n, hy, hl, hf0, hf1, hf2⟩ := trod_struct3 Tryd.underlying94 hrow
  obtain ⟨k0, e0, z0, _⟩ := DataW.trod_int Tryd.underlying21 hf0
  obtain ⟨k1, e1, z1, _⟩ := DataW.trod_int Tryd.underlying21 hf1
  obtain ⟨k2, e2, z2, _⟩ := DataW.trod_int Tryd.underlying3 hf2
  rw [hy] at hfst
  simp only [wRowD, z0, z1, z2, DataW.agg.injEq, List.cons.injEq, DataW.lit.injEq, Lit.int.injEq, true_and, and_true] at hfst
  obtain ⟨rfl, rfl, rfl⟩ := hfst
  simp only [c21, c3, List.drop_take, List.drop_drop] at e0 e1 e2
  have at_ (j : Nat) : W.cell? ⟨0, j, none⟩ = cs0.toList[j]? := by
    rw [World.var?_cell hg0 hv0 j]; simp
  refine ⟨?_, ?_, ?_⟩
  · rw [at_]
    have := congrArg (·[0]?) e0
    simpa using this
  · rw [at_]
    have := congrArg (·[0]?) e1
    simpa using this
  · rw [at_]
    have := congrArg (·[0]?) e2
    simpa using this
theorem tabs_of_reads {W : World} (h3 : Lib.VarReads Tryd.prog W firstName Lib.firstData) (h4 : Lib.VarReads Tryd.prog W accName Lib.acceptData) : Lib.Utf8Tabs 1 2 W := by
  have c5 : Tryd.prog.cellsOf 5 = 1 := by kernel_rfl
  have c2 : Tryd.prog.cellsOf 99 = 2 := by kernel_rfl
  refine ⟨fun c hc => ?_, fun i hi => ?_⟩
  · obtain ⟨g, t, cs, fuel, p, hg, hty, hvar, hd⟩ := h3
    obtain rfl := Option.some.inj (gFirst.symm.trans hg)
    obtain rfl := Option.some.inj (tFirst.symm.trans hty)
    have hcs := Lib.cells_of_tab Tryd.underlying97 Tryd.underlying5 c5 (by kernel_rfl) hd
    have := World.var?_cell hg hvar c
    rw [this, ← Array.getElem?_toList, hcs]
    simp [Lib.firstTab, hc]
  · obtain ⟨g, t, cs, fuel, p, hg, hty, hvar, hd⟩ := h4
    obtain rfl := Option.some.inj (gAcc.symm.trans hg)
    obtain rfl := Option.some.inj (tAcc.symm.trans hty)
    obtain ⟨fuel', d, q, hdi, he⟩ := Lib.array_elem Tryd.underlying100 hd i hi
    simp only [List.getElem?_map, List.getElem?_range hi, Option.map_some, Option.some.injEq] at hdi
    subst hdi
    rw [c2] at he
    have hcs := Lib.ints_of_struct Tryd.underlying99 (fun j f hj => by
      match j, hj with
      | 0, hj => simp at hj; subst hj; exact ⟨Tryd.underlying5, rfl, c5⟩
      | 1, hj => simp at hj; subst hj; exact ⟨Tryd.underlying5, rfl, c5⟩
      | j + 2, hj => simp at hj) (by rw [c2]; rfl) he
    have e0 := congrArg (·[0]?) hcs
    have e1 := congrArg (·[1]?) hcs
    simp only [List.getElem?_take, List.getElem?_drop] at e0 e1
    constructor
    · rw [World.var?_cell hg hvar (2 * i), ← Array.getElem?_toList]
      simpa [Nat.mul_comm] using e0
    · rw [World.var?_cell hg hvar (2 * i + 1), ← Array.getElem?_toList]
      simpa [Nat.mul_comm] using e1
theorem tabs3_of_laid {W : World} (h : laidMetH Tryd.prog laidH W) : Tabs3 W := by
  rw [MakeChecks.laidMetH_plain _ _ _ (by kernel_rfl)] at h
  exact ⟨wide_of_reads (Lib.laidMet.reads h inH2), tabs_of_reads (Lib.laidMet.reads h inH3) (Lib.laidMet.reads h inH1)⟩
end Go.Proofs.YtaddlkhaokdpdaaDoor
