import Derived.Test.YtmlkpdbfnffoaaaGreatDoorAllOk2
import Derived.LaidMore
import Derived.Stop.Joined
import Derived.PinnedBridge
import Derived.Test.YtmlkpdbfnffoaaaGreatDoorPaintM
namespace Go.Proofs.YtmlkpdbfnffoaaaGreatDoor
open Go.ChangeShapes Go.WideShapes Go.ChangeAt Go.RowKit Go.Deep
abbrev zkY : List (String × DataW Unit) := Rows.fnExactWaitRow.laid
abbrev zgV : String := Rows.fnExactWaitRow.named.headD ""
abbrev zfw : String := (Rows.fnExactWaitRow.named.drop 1).headD ""
abbrev ziy : String := (Rows.fnExactWaitRow.named.drop 2).headD ""
theorem gWide : Tryz.prog.globalNamed zgV = some 2 := by kernel_rfl
theorem tWide : (Tryz.prog.globals[2]?).map (·.type) = some 271 := by kernel_rfl
theorem gFirst : Tryz.prog.globalNamed zfw = some 0 := by kernel_rfl
theorem tFirst : (Tryz.prog.globals[0]?).map (·.type) = some 264 := by kernel_rfl
theorem gAcc : Tryz.prog.globalNamed ziy = some 1 := by kernel_rfl
theorem tAcc : (Tryz.prog.globals[1]?).map (·.type) = some 267 := by kernel_rfl
def zlt {H : Type} (m : Nat) : DataW H := .agg [.lit (.int .i32 (at0 zcY m)), .lit (.int .i32 (at0 zdY m)), .lit (.int .i64 (at0 zkQ m))]
def wTabD {H : Type} : DataW H := .agg ((List.range 19).map zlt)
theorem inH1 : (ziy, (Lib.acceptData : DataW Unit)) ∈ zkY := List.mem_cons_of_mem _ (List.mem_cons_of_mem _ (List.mem_cons_of_mem _ (List.mem_cons_self)))
theorem inH2 : (zgV, (wTabD : DataW Unit)) ∈ zkY := List.mem_cons_of_mem _ (List.mem_cons_of_mem _ (List.mem_cons_of_mem _ (List.mem_cons_of_mem _ (List.mem_cons_self))))
theorem inH3 : (zfw, (Lib.firstData : DataW Unit)) ∈ zkY := by
 rw [← Pinned.utf8First_eq]
 exact List.mem_cons_of_mem _ (List.mem_cons_of_mem _ (List.mem_cons_of_mem _ (List.mem_cons_of_mem _ (List.mem_cons_of_mem _ (List.mem_cons_self)))))
theorem zhI {W : World} (h : Lib.VarReads Tryz.prog W zgV wTabD) : zcB W := by
 obtain ⟨g0, t0, cs0, f0, p0, hg0, ht0, hv0, hd0⟩ := h
 obtain rfl := Option.some.inj (gWide.symm.trans hg0)
 obtain rfl := Option.some.inj (tWide.symm.trans ht0)
 have c36 : Tryz.prog.cellsOf 270 = 3 := by kernel_rfl
 have c21 : Tryz.prog.cellsOf 21 = 1 := by kernel_rfl
 have c3 : Tryz.prog.cellsOf 3 = 1 := by kernel_rfl
 obtain ⟨xs, m1, rfl, hx1, hlen, hn, hel⟩ := DataW.trod_array Tryz.underlying271 hd0
 rw [wTabD] at hx1
 simp only [Prod.mk.injEq, DataW.agg.injEq] at hx1
 have hx := hx1.1
 intro m hm
 have hrow := hel m hm
 have hxm : m < xs.length := by omega
 rw [List.getElem?_eq_getElem hxm, c36] at hrow
 have hfst : (xs[m]).1 = zlt m := by
  have e1 : (xs.map (·.1))[m]? = some (zlt m) := by rw [← hx]; simp [hm]
  simpa [hxm] using e1
 obtain ⟨y0, y1, y2, n, hy, hl, hf0, hf1, hf2⟩ := trod_struct3 Tryz.underlying270 hrow
 obtain ⟨k0, e0, z0, _⟩ := DataW.trod_int Tryz.underlying21 hf0
 obtain ⟨k1, e1, z1, _⟩ := DataW.trod_int Tryz.underlying21 hf1
 obtain ⟨k2, e2, z2, _⟩ := DataW.trod_int Tryz.underlying3 hf2
 rw [hy] at hfst
 simp only [zlt, z0, z1, z2, DataW.agg.injEq, List.cons.injEq, DataW.lit.injEq, Lit.int.injEq, true_and, and_true] at hfst
 obtain ⟨rfl, rfl, rfl⟩ := hfst
 simp only [c21, c3, List.drop_take, List.drop_drop] at e0 e1 e2
 have at_ (j : Nat) : W.cell? ⟨2, j, none⟩ = cs0.toList[j]? := by
  rw [World.var?_cell hg0 hv0 j]; simp
 refine ⟨?_, ?_, ?_⟩
 ·rw [at_]
  have := congrArg (·[0]?) e0
  simpa using this
 ·rw [at_]
  have := congrArg (·[0]?) e1
  simpa using this
 ·rw [at_]
  have := congrArg (·[0]?) e2
  simpa using this
theorem zho {W : World} (h3 : Lib.VarReads Tryz.prog W zfw Lib.firstData) (h4 : Lib.VarReads Tryz.prog W ziy Lib.acceptData) : Lib.Utf8Tabs 0 1 W := by
 have c5 : Tryz.prog.cellsOf 5 = 1 := by kernel_rfl
 have c2 : Tryz.prog.cellsOf 266 = 2 := by kernel_rfl
 refine ⟨fun c hc => ?_, fun i hi => ?_⟩
 ·obtain ⟨g, t, cs, fuel, p, hg, hty, hvar, hd⟩ := h3
  obtain rfl := Option.some.inj (gFirst.symm.trans hg)
  obtain rfl := Option.some.inj (tFirst.symm.trans hty)
  have hcs := Lib.cells_of_tab Tryz.underlying264 Tryz.underlying5 c5 (by kernel_rfl) hd
  have := World.var?_cell hg hvar c
  rw [this, ← Array.getElem?_toList, hcs]
  simp [Lib.firstTab, hc]
 ·obtain ⟨g, t, cs, fuel, p, hg, hty, hvar, hd⟩ := h4
  obtain rfl := Option.some.inj (gAcc.symm.trans hg)
  obtain rfl := Option.some.inj (tAcc.symm.trans hty)
  obtain ⟨fuel', d, q, hdi, he⟩ := Lib.array_elem Tryz.underlying267 hd i hi
  simp only [List.getElem?_map, List.getElem?_range hi, Option.map_some, Option.some.injEq] at hdi
  subst hdi
  rw [c2] at he
  have hcs := Lib.ints_of_struct Tryz.underlying266 (fun j f hj => by
   match j, hj with
   | 0, hj => simp at hj; subst hj; exact ⟨Tryz.underlying5, rfl, c5⟩
   | 1, hj => simp at hj; subst hj; exact ⟨Tryz.underlying5, rfl, c5⟩
   | j + 2, hj => simp at hj) (by rw [c2]; rfl) he
  have e0 := congrArg (·[0]?) hcs
  have e1 := congrArg (·[1]?) hcs
  simp only [List.getElem?_take, List.getElem?_drop] at e0 e1
  constructor
  ·rw [World.var?_cell hg hvar (2 * i), ← Array.getElem?_toList]
   simpa [Nat.mul_comm] using e0
  ·rw [World.var?_cell hg hvar (2 * i + 1), ← Array.getElem?_toList]
   simpa [Nat.mul_comm] using e1
theorem zhp {W : World} (h : laidMetH Tryz.prog zkY W) : zbf W := by
 rw [MakeChecks.laidMetH_plain _ _ _ (by kernel_rfl)] at h
 exact ⟨zhI (Lib.laidMet.reads h inH2), zho (Lib.laidMet.reads h inH3) (Lib.laidMet.reads h inH1)⟩
abbrev laidP : List (String × DataW Unit) := Rows.fnExactWaitRow.laid
theorem tPow : (Tryz.prog.globals[3]?).map (·.type) = some 303 := by kernel_rfl
theorem zlZ : (zgs, (Lib.tabData .u64 Lib.pow10Tab : DataW Unit)) ∈ laidP := List.mem_cons_of_mem _ (List.mem_cons_of_mem _ List.mem_cons_self)
theorem zjj {W : World} (h : laidMetH Tryz.prog laidP W) : zdP W := by
 rw [MakeChecks.laidMetH_plain _ _ _ (by kernel_rfl)] at h
 obtain ⟨g, t, cs, fuel, p, hg, ht, hv, hd⟩ := Lib.laidMet.reads h zlZ
 obtain rfl := Option.some.inj (gPow.symm.trans hg)
 obtain rfl := Option.some.inj (tPow.symm.trans ht)
 unfold zdP Lib.TabIs
 rw [hv, ← Lib.cells_of_tab Tryz.underlying303 Tryz.underlying249 (by kernel_rfl) (by kernel_rfl) hd]
theorem pow_lo {W : World} (h : zdP W) : 3 < W.heap.size := by
 unfold zdP Lib.TabIs World.var? at h
 rw [gPow] at h
 simp only [Option.bind_some] at h
 by_cases hlt : 3 < W.heap.size
 ·exact hlt
 ·rw [Array.getElem?_eq_none (by omega)] at h
  simp at h
end Go.Proofs.YtmlkpdbfnffoaaaGreatDoor
