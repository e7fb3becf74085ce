import Derived.Test.YtlnmpbdnmlpkiaaDoorCame
import Derived.Test.YtlnmpbdnmlpkiaaDoorSnaps
import Derived.Test.YtlnmpbdnmlpkiaaDoorRwImpl
import Derived.Test.YtlnmpbdnmlpkiaaDoorFrame
import Derived.Test.YtlnmpbdnmlpkiaaDoorRows
import Derived.LaidMore
import Derived.Deep.Strs
import Derived.Stop.Joined
namespace Go.Proofs.YtlnmpbdnmlpkiaaDoor
open Go.ChangeShapes Go.WideShapes Go.ChangeAt Go.RowKit Go.Deep

set_option maxRecDepth 10000 in
theorem snaps_trod {H : Type} {enc : TypeId × Value → H} {W : World} {fuel : Nat} {v : Value} {x : DataW H × List MemPlace}
    (h : DataW.trod enc Tryd.prog W 0 (fun _ => true) true fuel 48 [v] = some x) : ∃ (n : Nat) (tx hf : Nat → ByteArray), Row2At W v n (fun j => .string (tx j)) (fun j => .string (hf j)) ∧ n ≤ maxLen ∧ ∀ j, j < n → (tx j).size ≤ maxLen ∧ (hf j).size ≤ maxLen := by
  rcases open_slice_pairs Tryd.underlying48 Tryd.underlying166 (by kernel_rfl) rfl rfl (by kernel_rfl) (by kernel_rfl) h with ⟨hcs, _⟩ | ⟨a, len, cap, m, n, V0, V1, D0, D1, P0, P1, hcs, _, hl, hm, hmm, _, hx⟩
  · simp at hcs
    subst hcs
    exact ⟨0, fun _ => { data := #[] }, fun _ => { data := #[] }, ⟨none, 0, rfl, Nat.le_refl _, fun h => by omega⟩, by simp, fun j hj => by omega⟩
  · simp at hcs
    subst hcs
    simp at hmm
    have each : ∀ i, i < len → ∃ q : ByteArray × ByteArray, V0 i = .string q.1 ∧ V1 i = .string q.2 ∧ q.1.size ≤ maxLen ∧ q.2.size ≤ maxLen := by
      intro i hi
      obtain ⟨_, _, t0, t1⟩ := hx i (by omega)
      obtain ⟨s, e0, _, hs⟩ := DataW.trod_string Tryd.underlying9 t0
      obtain ⟨b, e1, _, hb⟩ := DataW.trod_string Tryd.underlying9 t1
      simp at e0 e1
      exact ⟨(s, b), e0, e1, hs, hb⟩
    obtain ⟨q, hq⟩ := choose_lt each
    refine ⟨len, fun i => (q i).1, fun i => (q i).2, ⟨some a, cap, rfl, hl, fun hp => ?_⟩, by omega, fun j hj => (hq j hj).2.2⟩
    have ha := addr_plain (by simpa using (hx 0 (by omega)).1)
    refine ⟨a.block, a.off, by rw [← ha], fun j hj => ?_⟩
    obtain ⟨c0, c1, _, _⟩ := hx j (by omega)
    rw [ha, Addr.add_lit] at c0 c1
    rw [(hq j hj).1] at c0
    rw [(hq j hj).2.1] at c1
    exact ⟨c0, by simpa [Nat.add_assoc] using c1⟩
set_option maxRecDepth 10000 in
/-- A line that came in, opened. -/
theorem line_came {H : Type} {enc : TypeId × Value → H} {W : World} {v : Value} {d : DataW H} {p : List MemPlace} {base : Nat} {r : Reach}
    (hv : Value.okWide Tryd.prog W r base 50 v) (h : DataW.Trod enc Tryd.prog W 0 (fun _ => true) true 50 v d p) :
    ∃ (a b c : ByteArray) (u : Value) (n : Nat) (tx hf : Nat → ByteArray), v = .agg #[.string a, .string b, .string c, u] ∧ Row2At W u n (fun j => .string (tx j)) (fun j => .string (hf j)) ∧ a.size ≤ maxLen ∧ b.size ≤ maxLen ∧ c.size ≤ maxLen ∧ n ≤ maxLen ∧ ∀ j, j < n → (tx j).size ≤ maxLen ∧ (hf j).size ≤ maxLen := by
  obtain ⟨cs, rfl, hsz⟩ := okWide_struct Tryd.underlying50 hv
  obtain ⟨fuel, hf⟩ := h
  obtain ⟨xs, n, _, _, _, hlen, hx⟩ := DataW.trod_struct Tryd.underlying50 hf
  have h4 : Tryd.prog.cellsOf 50 = 4 := by kernel_rfl
  rw [h4] at hsz
  obtain ⟨l⟩ := cs
  have ks : Tryd.prog.cellsOf 9 = 1 := by kernel_rfl
  have ku : Tryd.prog.cellsOf 48 = 1 := by kernel_rfl
  match l, hsz, xs, hlen with
  | [c0, c1, c2, c3], _, [x0, x1, x2, x3], _ =>
    have t0 : DataW.trod enc Tryd.prog W 0 (fun _ => true) true n 9 [c0] = some x0 := by
      have := hx 0 _ rfl
      simpa [Value.cells, ks] using this
    have t1 : DataW.trod enc Tryd.prog W 0 (fun _ => true) true n 9 [c1] = some x1 := by
      have := hx 1 _ rfl
      simpa [Value.cells, ks] using this
    have t2 : DataW.trod enc Tryd.prog W 0 (fun _ => true) true n 9 [c2] = some x2 := by
      have := hx 2 _ rfl
      simpa [Value.cells, ks] using this
    have t3 : DataW.trod enc Tryd.prog W 0 (fun _ => true) true n 48 [c3] = some x3 := by
      have := hx 3 _ rfl
      simpa [Value.cells, ku] using this
    obtain ⟨s0, e0, _, z0⟩ := DataW.trod_string Tryd.underlying9 t0
    obtain ⟨s1, e1, _, z1⟩ := DataW.trod_string Tryd.underlying9 t1
    obtain ⟨s2, e2, _, z2⟩ := DataW.trod_string Tryd.underlying9 t2
    obtain ⟨m, tx, hfl, g1, g2, g3⟩ := snaps_trod t3
    simp at e0 e1 e2
    subst e0 e1 e2
    exact ⟨s0, s1, s2, c3, m, tx, hfl, rfl, g1, z0, z1, z2, g2, g3⟩
end Go.Proofs.YtlnmpbdnmlpkiaaDoor

namespace Go.Proofs.YtlnmpbdnmlpkiaaDoor
open Go.ChangeShapes Go.WideShapes Go.ChangeAt Go.RowKit Go.Deep

theorem own : ownKnob Tryd.prog.godebug = none := by kernel_rfl
theorem laidOut : laidOutB Tryd.prog = true := by kernel_rfl
abbrev laid1 : List (String × DataW Unit) := Rows.fnExactLayoutRow.laid
abbrev tabName : String := Rows.fnExactLayoutSpec.vars.headD ""
theorem gTab : Tryd.prog.globalNamed tabName = some 1 := by kernel_rfl
theorem tTab : (Tryd.prog.globals[1]?).map (·.type) = some 231 := by kernel_rfl
def rowD {H : Type} (m : Nat) : DataW H := .agg [.lit (.int .i32 (at0 firsts m)), .lit (.int .i32 (at0 lasts m)), .lit (.int .i64 (at0 widths m))]
def tabD {H : Type} : DataW H := .agg ((List.range 19).map rowD)
theorem laid1_is : laid1 = [(tabName, tabD)] := by rfl

theorem of_laid {W : World} (h : laidMetH Tryd.prog laid1 W) : Laid W := by
  rw [laid1_is] at h
  rw [MakeChecks.laidMetH_plain _ _ _ (by kernel_rfl)] at h
  obtain ⟨ps, ⟨g0, t0, cs0, f0, p0, q0, hg0, ht0, hv0, hd0, _, _⟩, _, _⟩ := h
  obtain rfl := Option.some.inj (gTab.symm.trans hg0)
  obtain rfl := Option.some.inj (tTab.symm.trans ht0)
  have c36 : Tryd.prog.cellsOf 230 = 3 := by kernel_rfl
  have c21 : Tryd.prog.cellsOf 21 = 1 := by kernel_rfl
  have c3 : Tryd.prog.cellsOf 3 = 1 := by kernel_rfl
  obtain ⟨xs, m1, rfl, hx1, hlen, hn, hel⟩ := DataW.trod_array Tryd.underlying231 hd0
  rw [tabD] at hx1
  simp only [Prod.mk.injEq, DataW.agg.injEq] at hx1
  have hx := hx1.1
  intro m hm
  have hrow := hel m hm
  have hxm : m < xs.length := by omega
  rw [List.getElem?_eq_getElem hxm, c36] at hrow
  have hfst : (xs[m]).1 = rowD m := by
    have e1 : (xs.map (·.1))[m]? = some (rowD m) := by rw [← hx]; simp [hm]
    simpa [hxm] using e1
  obtain ⟨y0, y1, y2, n, hy, hl, hf0, hf1, hf2⟩ := trod_struct3 Tryd.underlying230 hrow
  obtain ⟨k0, e0, z0, _⟩ := DataW.trod_int Tryd.underlying21 hf0
  obtain ⟨k1, e1, z1, _⟩ := DataW.trod_int Tryd.underlying21 hf1
  obtain ⟨k2, e2, z2, _⟩ := DataW.trod_int Tryd.underlying3 hf2
  rw [hy] at hfst
  simp only [rowD, z0, z1, z2, DataW.agg.injEq, List.cons.injEq, DataW.lit.injEq, Lit.int.injEq, true_and, and_true] at hfst
  obtain ⟨rfl, rfl, rfl⟩ := hfst
  simp only [c21, c3, List.drop_take, List.drop_drop] at e0 e1 e2
  have at_ (j : Nat) : W.cell? ⟨1, j, none⟩ = cs0.toList[j]? := by
    rw [World.var?_cell hg0 hv0 j]; simp
  refine ⟨?_, ?_, ?_⟩
  · rw [at_]
    have := congrArg (·[0]?) e0
    simpa using this
  · rw [at_]
    have := congrArg (·[0]?) e1
    simpa using this
  · rw [at_]
    have := congrArg (·[0]?) e2
    simpa using this

theorem door_met (os : Os) (args : Array Value) : laidMetH Tryd.prog laid1 ((World.doorLaid Tryd.prog 400 os).forCall (fun _ _ => 0) ⟨#[], args, []⟩).memory :=
  laidMetH_of_parts3 (fuel := 8) (laidMet_of_run' 8 (by kernel_rfl) (by kernel_rfl)) (by kernel_rfl) (by kernel_rfl)
end Go.Proofs.YtlnmpbdnmlpkiaaDoor
