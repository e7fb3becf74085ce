import Derived.Test.YtmomcccgjjjldaaDoorRwImpl
import Derived.Test.YtmomcccgjjjldaaDoorFrame
import Derived.Test.YtmomcccgjjjldaaDoorRows
import Derived.LaidMore
import Derived.Deep.Strs
import Derived.Stop.Joined
namespace Go.Proofs.YtmomcccgjjjldaaDoor
open Go.ChangeShapes Go.WideShapes Go.ChangeAt Go.RowKit Go.Deep
theorem own : ownKnob Tryd.prog.godebug = none := by kernel_rfl
theorem laidOut : laidOutB Tryd.prog = true := by kernel_rfl
abbrev laid1 : List (String × DataW Unit) := Rows.fnWrappedRow.laid
abbrev tabName : String := Rows.fnWrappedSpec.vars.headD ""
theorem gTab : Tryd.prog.globalNamed tabName = some 0 := by kernel_rfl
theorem tTab : (Tryd.prog.globals[0]?).map (·.type) = some 55 := by kernel_rfl
def rowD {H : Type} (m : Nat) : DataW H := .agg [.lit (.int .i32 (at0 firsts m)), .lit (.int .i32 (at0 lasts m)), .lit (.int .i64 (at0 widths m))]
def tabD {H : Type} : DataW H := .agg ((List.range 19).map rowD)
theorem laid1_is : laid1 = [(tabName, tabD)] := by rfl
theorem of_laid {W : World} (h : laidMetH Tryd.prog laid1 W) : Laid W := by
  rw [laid1_is] at h
  rw [MakeChecks.laidMetH_plain _ _ _ (by kernel_rfl)] at h
  obtain ⟨ps, ⟨g0, t0, cs0, f0, p0, q0, hg0, ht0, hv0, hd0, _, _⟩, _, _⟩ := h
  obtain rfl := Option.some.inj (gTab.symm.trans hg0)
  obtain rfl := Option.some.inj (tTab.symm.trans ht0)
  have c36 : Tryd.prog.cellsOf 54 = 3 := by kernel_rfl
  have c21 : Tryd.prog.cellsOf 21 = 1 := by kernel_rfl
  have c3 : Tryd.prog.cellsOf 3 = 1 := by kernel_rfl
  obtain ⟨xs, m1, rfl, hx1, hlen, hn, hel⟩ := DataW.trod_array Tryd.underlying55 hd0
  rw [tabD] at hx1
  simp only [Prod.mk.injEq, DataW.agg.injEq] at hx1
  have hx := hx1.1
  intro m hm
  have hrow := hel m hm
  have hxm : m < xs.length := by omega
  rw [List.getElem?_eq_getElem hxm, c36] at hrow
  have hfst : (xs[m]).1 = rowD m := by
    have e1 : (xs.map (·.1))[m]? = some (rowD m) := by rw [← hx]; simp [hm]
    simpa [hxm] using e1
  obtain ⟨y0, y1, y2, n, hy, hl, hf0, hf1, hf2⟩ := trod_struct3 Tryd.underlying54 hrow
  obtain ⟨k0, e0, z0, _⟩ := DataW.trod_int Tryd.underlying21 hf0
  obtain ⟨k1, e1, z1, _⟩ := DataW.trod_int Tryd.underlying21 hf1
  obtain ⟨k2, e2, z2, _⟩ := DataW.trod_int Tryd.underlying3 hf2
  rw [hy] at hfst
  simp only [rowD, z0, z1, z2, DataW.agg.injEq, List.cons.injEq, DataW.lit.injEq, Lit.int.injEq, true_and, and_true] at hfst
  obtain ⟨rfl, rfl, rfl⟩ := hfst
  simp only [c21, c3, List.drop_take, List.drop_drop] at e0 e1 e2
  have at_ (j : Nat) : W.cell? ⟨0, j, none⟩ = cs0.toList[j]? := by
    rw [World.var?_cell hg0 hv0 j]; simp
  refine ⟨?_, ?_, ?_⟩
  · rw [at_]
    have := congrArg (·[0]?) e0
    simpa using this
  · rw [at_]
    have := congrArg (·[0]?) e1
    simpa using this
  · rw [at_]
    have := congrArg (·[0]?) e2
    simpa using this
theorem door_met (os : Os) (args : Array Value) : laidMetH Tryd.prog laid1 ((World.doorLaid Tryd.prog 400 os).forCall (fun _ _ => 0) ⟨#[], args, []⟩).memory :=
  laidMetH_of_parts3 (fuel := 8) (laidMet_of_run' 8 (by kernel_rfl) (by kernel_rfl)) (by kernel_rfl) (by kernel_rfl)
end Go.Proofs.YtmomcccgjjjldaaDoor
